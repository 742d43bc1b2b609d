/- What the proof of the claim needs (joined by program): AqO. -/
import Derived.Test.YtnhhnjmjodmacaaGreatDoorQaa40
import Derived.Test.YtnhhnjmjodmacaaGreatDoorQaa19
import Derived.Test.YtnhhnjmjodmacaaGreatDoorQaa25
import Derived.Test.YtnhhnjmjodmacaaGreatDoorQaa26
import Derived.Test.YtnhhnjmjodmacaaGreatDoorQaa01
namespace Go.Proofs.YtnhhnjmjodmacaaGreatDoor.Sha
set_option maxRecDepth 100000
set_option maxHeartbeats 8000000
open Go.ChangeShapes Go.WideShapes Go.ChangeAt Go.RowKit Go.Deep
set_option linter.unusedVariables false
set_option linter.unusedSimpArgs false
def OwnL (k v : ByteArray) (a : Int) (ls : List ByteArray) (ks : List Br) (ss : List Se) (w : World) (e : Ending) (w' : World) : Prop :=
 ∃ la lc ka kn kc sa sc, e = .returned (.agg #[.slice la ls.length lc, .string k, .string v, .int .i64 a, .slice ka kn kc, .slice sa ss.length sc]) ∧ LedO w.heap.size w' (.slice la ls.length lc) (.slice ka kn kc) (.slice sa ss.length sc) ls ks ss ∧ Below w.heap.size w w'
theorem l09Own_any (k v : ByteArray) (a : Int) (ls : List ByteArray) (ks : List Br) (ss : List Se) (la ka sa : Option Addr) (lc kc sc : Nat) (w : World) (hS : Strs w (.slice la ls.length lc) ls) (hK : Brs (fun _ => True) w (.slice ka ks.length kc) ks) (hSe : Sess w (.slice sa ss.length sc) ss) (h1 : ls.length ≤ 1048576) (h2 : cntL ks ≤ 1048576) (h3 : ss.length ≤ 1048576) :
  Calls Tryz.prog 33 #[.agg #[.slice la ls.length lc, .string k, .string v, .int .i64 a, .slice ka ks.length kc, .slice sa ss.length sc]] w fun e w' => OwnL k v a ls ks ss w e w' := by
 have HOW := Hd (fun wx (hx : Below w.heap.size w wx) => l07Own_any hK k v a wx h2 hx)
 obtain ⟨i0, hi, hz0, hz1, hz2⟩ := info_parts infoStr_
 obtain ⟨j0, hj, hy0, hy1, hy2⟩ := info_parts infoSe
 have HS := Hd hS
 have HSe := Hd hSe
 clear hS hK hSe h2
 have B0 := Hd ((bal w (.cells #[.slice la ls.length lc, .string k, .string v, .int .i64 a, .slice ka ks.length kc, .slice sa ss.length sc] 38)).alloc (by simp) (.cells #[.slice none 0 0, .string ⟨#[]⟩, .string ⟨#[]⟩, .int .i64 0, .slice none 0 0, .slice none 0 0] 38))
 have X0 := Hd ((Blk.new w #[.slice la ls.length lc, .string k, .string v, .int .i64 a, .slice ka ks.length kc, .slice sa ss.length sc] 38 w.heap.size rfl).alloc (.cells #[.slice none 0 0, .string ⟨#[]⟩, .string ⟨#[]⟩, .int .i64 0, .slice none 0 0, .slice none 0 0] 38))
 have R0 := Hd (Blk.new (w.alloc (.cells #[.slice la ls.length lc, .string k, .string v, .int .i64 a, .slice ka ks.length kc, .slice sa ss.length sc] 38)) #[.slice none 0 0, .string ⟨#[]⟩, .string ⟨#[]⟩, .int .i64 0, .slice none 0 0, .slice none 0 0] 38 (w.heap.size + 1) (by simp))
 go_enter Tryz.func33, Tryz.ntmps33
 go_upto_region 1 with fail
 generalize (w.alloc (.cells #[.slice la ls.length lc, .string k, .string v, .int .i64 a, .slice ka ks.length kc, .slice sa ss.length sc] 38)).alloc (.cells #[.slice none 0 0, .string ⟨#[]⟩, .string ⟨#[]⟩, .int .i64 0, .slice none 0 0, .slice none 0 0] 38) = w0 at *
 have hw0 : w.heap.size + 1 < w0.heap.size := (uh R0).1
 have hlb : w.heap.size < w0.heap.size := by omega
 obtain ⟨⟨x0, x1, x2, x3, x4, x5⟩, _⟩ := Blk.c6 (uh X0)
 have HKS : Hid (∀ wx, Below w0.heap.size w0 wx → (fun wx => wx.cell? ⟨w.heap.size, 0, none⟩ = some (.slice la ls.length lc) ∧ wx.cell? ⟨w.heap.size, 1, none⟩ = some (.string k) ∧ wx.cell? ⟨w.heap.size, 2, none⟩ = some (.string v) ∧ wx.cell? ⟨w.heap.size, 3, none⟩ = some (.int .i64 a) ∧ wx.cell? ⟨w.heap.size, 4, none⟩ = some (.slice ka ks.length kc) ∧ wx.cell? ⟨w.heap.size, 5, none⟩ = some (.slice sa ss.length sc)) wx) := Hd (fun wx hx => ⟨(hx.cell (p := ⟨w.heap.size, 0, none⟩) hlb).trans x0, (hx.cell (p := ⟨w.heap.size, 1, none⟩) hlb).trans x1, (hx.cell (p := ⟨w.heap.size, 2, none⟩) hlb).trans x2, (hx.cell (p := ⟨w.heap.size, 3, none⟩) hlb).trans x3, (hx.cell (p := ⟨w.heap.size, 4, none⟩) hlb).trans x4, (hx.cell (p := ⟨w.heap.size, 5, none⟩) hlb).trans x5⟩)
 refine wp_region_noPanic ?_
 refine wp_region_held_drew (S := (fun wx => wx.cell? ⟨w.heap.size, 0, none⟩ = some (.slice la ls.length lc) ∧ wx.cell? ⟨w.heap.size, 1, none⟩ = some (.string k) ∧ wx.cell? ⟨w.heap.size, 2, none⟩ = some (.string v) ∧ wx.cell? ⟨w.heap.size, 3, none⟩ = some (.int .i64 a) ∧ wx.cell? ⟨w.heap.size, 4, none⟩ = some (.slice ka ks.length kc) ∧ wx.cell? ⟨w.heap.size, 5, none⟩ = some (.slice sa ss.length sc))) (by kernel_rfl) ?_ (fun hHeld => ?_)
 ·exact ⟨x0, x1, x2, x3, x4, x5⟩
 refine tkH 1 rfl ?_
 refine tkH 2 rfl ?_
 refine tkH 4 rfl ?_
 refine tkH 5 rfl ?_
 refine tkH 8 rfl ?_
 refine tkH 9 rfl ?_
 have HBx := Hd (below_drewN (Below.refl w0.heap.size w0) 1)
 change Hid (Below w0.heap.size w0 w0.drew) at HBx
 generalize w0.drew = y0 at *
 refine rdy2 0 7 rfl rfl (fun K hK => ?_) (fun K hK => ?_)
 ·go_simp
  have hbs := bal y0 (.cells #[] 9)
  have OL := Hd (show (y0.alloc (.cells #[] 9)).ownsRow w0.heap.size 9 1 (.slice (some ⟨y0.heap.size, 0, none⟩) 0 0) 0 [] from World.ownsRow_made y0 #[] 0 (uh HBx).size (by unfold maxLen; omega) rfl)
  replace HBx := hbt HBx hbs
  refine outH hK ?_ (fun hHeld => ?_)
  ·exact uh HKS _ (uh HBx)
  clear hK K
  clear hbs
  generalize y0.alloc (.cells #[] 9) = y1 at *
  generalize y0.heap.size = bl at *
  refine rdy2 3 7 rfl rfl (fun K hK => ?_) (fun K hK => ?_)
  ·refine step_append_row rfl _ _ _ rfl w0.heap.size 9 i0 _ 1 16 Tryz.underlying22 hi hz0 hz1 hz2 rfl (by omega) _ 0 [] rfl (uh OL) _ ls.length (ls.map Value.string) rfl ((uh HS).below ((uh B0).trans ((uh HBx).mono (uh B0).size))).rw (by simp) (by simp [Value.oneCell']) (by unfold maxLen; omega) (by omega) (uh HBx).size ?_
   intro la2 lc2 y2 hown hgrow hat
   have hgt := grownR hgrow
   replace HBx := Hd ((uh HBx).grown hgrow (uh HBx).size (fun r hr => (World.ownsRow.lt (uh OL) r hr).1))
   replace OL := Hd hown
   clear hown hgrow hat hgt
   refine outH hK ?_ (fun hHeld => ?_)
   ·exact uh HKS _ (uh HBx)
   clear hK K
   simp only [Nat.zero_add, List.nil_append] at OL ⊢
   refine rdy2 6 7 rfl rfl (fun K hK => ?_) (fun K hK => ?_)
   ·go_simp
    refine (uh HOW y2 ((uh B0).trans ((uh HBx).mono (uh B0).size))).mono ?_
    rintro e y3 ⟨ka2, kn2, kc2, rfl, hO, hbs⟩
    dsimp only [Br.key, Br.val, Br.at_, Br.kids] at hO ⊢
    obtain ⟨Sk, hSk⟩ : ∃ Sk : Nat → Prop, Sk = fun x => y2.heap.size ≤ x ∧ x < y3.heap.size := ⟨_, rfl⟩
    rw [← hSk] at hO
    have SKB := Hd (show ∀ x, Sk x → w0.heap.size ≤ x ∧ x < y3.heap.size from fun x hx => by rw [hSk] at hx; exact ⟨Nat.le_trans (uh HBx).size hx.1, hx.2⟩)
    have DKL := Hd (show ∀ q, Sk q → (.slice la2 ls.length lc2 : Value).ownBlock ≠ some q from fun q hq e => by rw [hSk] at hq; have h := (World.ownsRow.lt (uh OL) q e).2; have h2 := hq.1; omega)
    replace OL := Hd (own_kept (T := fun _ => False) (uh OL) (Touch.ofBelow hbs) (fun _ _ e => e))
    have OK := Hd hO
    replace HBx := hbt HBx hbs
    clear hO hSk hbs
    go_wp2_with fail
    refine outH hK ?_ (fun hHeld => ?_)
    ·exact uh HKS _ (uh HBx)
    clear hK K
    refine rdy1 7 rfl (fun K hK => ?_)
    go_simp
    have hbs := bal y3 (.cells #[] 106)
    have DLS := Hd (show ∀ q, (.slice la2 ls.length lc2 : Value).ownBlock = some q → (Value.slice (some ⟨y3.heap.size, 0, none⟩) 0 0).ownBlock ≠ some q from fun q hq e => by have h := (World.ownsRow.lt (uh OL) q hq).2; have e2 : y3.heap.size = q := Option.some.inj e; omega)
    have DKS := Hd (show ∀ q, Sk q → (Value.slice (some ⟨y3.heap.size, 0, none⟩) 0 0).ownBlock ≠ some q from fun q hq e => by have h := ((uh SKB) q hq).2; have e2 : y3.heap.size = q := Option.some.inj e; omega)
    replace OL := Hd (own_kept (T := fun _ => False) (uh OL) (Touch.ofBelow hbs) (fun _ _ e => e))
    replace OK := Hd ((uh OK).blw hbs)
    replace SKB := Hd (fun x hx => (⟨((uh SKB) x hx).1, Nat.lt_of_lt_of_le ((uh SKB) x hx).2 (hbs).size⟩ : w0.heap.size ≤ x ∧ x < _))
    have OS := Hd (show (y3.alloc (.cells #[] 106)).ownsRow w0.heap.size 106 5 (.slice (some ⟨y3.heap.size, 0, none⟩) 0 0) 0 [] from World.ownsRow_made y3 #[] 0 (uh HBx).size (by unfold maxLen; omega) rfl)
    replace HBx := hbt HBx hbs
    refine outH hK ?_ (fun hHeld => ?_)
    ·exact uh HKS _ (uh HBx)
    clear hK K
    clear hbs
    generalize y3.alloc (.cells #[] 106) = y4 at *
    generalize y3.heap.size = bs at *
    have hbsl := ((World.ownsRow.lt (uh OS) bs rfl)).2
    refine rdy1 10 rfl (fun K hK => ?_)
    refine step_append_row rfl _ _ _ rfl w0.heap.size 106 j0 _ 5 48 Tryz.underlying36 hj hy0 hy1 hy2 rfl (by omega) _ 0 [] rfl (uh OS) _ ss.length (sesC ss) rfl ((uh HSe).below ((uh B0).trans ((uh HBx).mono (uh B0).size))).rw (sesC_len ss) (sesC_one ss) (by unfold maxLen; omega) (by omega) (uh HBx).size ?_
    intro sa2 sc2 yz hown hgrow hat
    have hgt := grownR hgrow
    have hltL := fun q hq => (World.ownsRow.lt (uh OL) q hq).2
    have DL2 := Hd (show ∀ q, (.slice la2 ls.length lc2 : Value).ownBlock = some q → (Value.slice sa2 (0 + ss.length) sc2).ownBlock ≠ some q from fun q hq e => by
     rcases hat with h | h
     ·exact (uh DLS) q hq (h.symm.trans e)
     ·have h9 : y4.heap.size = q := Option.some.inj (h.symm.trans e)
      have h8 := hltL q hq
      omega)
    have DK2 := Hd (show ∀ q, Sk q → (Value.slice sa2 (0 + ss.length) sc2).ownBlock ≠ some q from fun q hq e => by
     rcases hat with h | h
     ·exact (uh DKS) q hq (h.symm.trans e)
     ·have h9 : y4.heap.size = q := Option.some.inj (h.symm.trans e)
      have h8 := ((uh SKB) q hq).2
      omega)
    replace OL := Hd (own_kept (uh OL) hgt (fun q hq e => (uh DLS) q hq e))
    replace OK := Hd ((uh OK).touch hgt (fun q hq e => (uh DKS) q hq e))
    replace SKB := Hd (fun x hx => (⟨((uh SKB) x hx).1, Nat.lt_of_lt_of_le ((uh SKB) x hx).2 hgt.size⟩ : w0.heap.size ≤ x ∧ x < _))
    replace HBx := Hd ((uh HBx).grown hgrow (uh HBx).size (fun r hr => (World.ownsRow.lt (uh OS) r hr).1))
    have OS2 := Hd hown
    clear OS hown hgrow hat hgt hltL DLS DKS hbsl
    refine outH hK ?_ (fun hHeld => ?_)
    ·exact uh HKS _ (uh HBx)
    clear hK K
    simp only [Nat.zero_add, List.nil_append] at OS2 DL2 DK2 ⊢
    refine tkH 11 rfl ?_
    have RX := (uh R0).below (uh HBx)
    obtain ⟨⟨r0, r1, r2, r3, r4, r5⟩, _⟩ := Blk.c6 RX
    have rf0 := RX.fro 0
    have rf1 := RX.fro 1
    have rf2 := RX.fro 2
    have rf3 := RX.fro 3
    have rf4 := RX.fro 4
    have rf5 := RX.fro 5
    have T9 := (((((((Touch.refl (fun x => x = w.heap.size + 1) yz).setCell ⟨w.heap.size + 1, 0, none⟩ (.slice la2 ls.length lc2) (fun _ => rfl)).setCell ⟨w.heap.size + 1, 1, none⟩ (.string k) (fun _ => rfl)).setCell ⟨w.heap.size + 1, 2, none⟩ (.string v) (fun _ => rfl)).setCell ⟨w.heap.size + 1, 3, none⟩ (.int .i64 a) (fun _ => rfl)).setCell ⟨w.heap.size + 1, 4, none⟩ (.slice ka2 kn2 kc2) (fun _ => rfl)).setCell ⟨w.heap.size + 1, 5, none⟩ (.slice sa2 ss.length sc2) (fun _ => rfl))
    have R9 := Hd ((((((RX.set 0 (.slice la2 ls.length lc2) (by simp)).set 1 (.string k) (by simp)).set 2 (.string v) (by simp)).set 3 (.int .i64 a) (by simp)).set 4 (.slice ka2 kn2 kc2) (by simp)).set 5 (.slice sa2 ss.length sc2) (by simp))
    have hsx := (uh HBx).size
    have hkc := fun (i : Nat) (u : Value) (h : w0.cell? ⟨w.heap.size, i, none⟩ = some u) => (T9.cell (p := ⟨w.heap.size, i, none⟩) (show w.heap.size < yz.heap.size by omega) (show ¬ w.heap.size = w.heap.size + 1 by omega)).trans (((uh HBx).cell (p := ⟨w.heap.size, i, none⟩) hlb).trans h)
    refine rdy1 12 rfl (fun K hK => ?_)
    go_simp
    refine outH hK ?_ (fun hHeld => ?_)
    ·exact ⟨hkc _ _ x0, hkc _ _ x1, hkc _ _ x2, hkc _ _ x3, hkc _ _ x4, hkc _ _ x5⟩
    clear hK K
    refine wpAnyH_done (by kernel_rfl) (NoPanic.normal ?_) _
    clear hHeld hkc
    have K9a := (uh B0).trans ((uh HBx).mono (uh B0).size)
    have K9 := Hd (K9a.trans (T9.below K9a.size (fun x hx e => by omega)))
    have L9 := Hd (show LedO w.heap.size _ (.slice la2 ls.length lc2) (.slice ka2 kn2 kc2) (.slice sa2 ss.length sc2) ls ks ss from ⟨OwnS.down' (own_kept (uh OL) T9 (fun q hq e => by have := (World.ownsRow.lt (uh OL) q hq).1; omega)) (by omega), OwnSe.down (own_kept (uh OS2) T9 (fun q hq e => by have := (World.ownsRow.lt (uh OS2) q hq).1; omega)) (by omega), uh DL2, Sk, (uh OK).touch T9 (fun q hq e => by have := ((uh SKB) q hq).1; omega), fun x hx => ⟨by have := ((uh SKB) x hx).1; omega, Nat.lt_of_lt_of_le ((uh SKB) x hx).2 T9.size, (uh DKL) x hx, (uh DK2) x hx⟩⟩)
    clear T9 K9a RX
    generalize ((((((yz.setCell ⟨w.heap.size + 1, 0, none⟩ (.slice la2 ls.length lc2)).setCell ⟨w.heap.size + 1, 1, none⟩ (.string k)).setCell ⟨w.heap.size + 1, 2, none⟩ (.string v)).setCell ⟨w.heap.size + 1, 3, none⟩ (.int .i64 a)).setCell ⟨w.heap.size + 1, 4, none⟩ (.slice ka2 kn2 kc2)).setCell ⟨w.heap.size + 1, 5, none⟩ (.slice sa2 ss.length sc2)) = w9 at *
    go_wp2_with fail
    have R9' := uh R9
    obtain ⟨⟨z0, z1, z2, z3, z4, z5⟩, _⟩ := Blk.c6 R9'
    refine bodyPost_ret (v := .agg #[.slice la2 ls.length lc2, .string k, .string v, .int .i64 a, .slice ka2 kn2 kc2, .slice sa2 ss.length sc2]) (by simp [results, Tryz.results33, go_sem, z0, z1, z2, z3, z4, z5]) rfl ?_
    exact ⟨_, _, _, _, _, _, _, rfl, uh L9, uh K9⟩
   ·go_simp
    have hbs := bal y2 (.cells #[] 106)
    have DLS := Hd (show ∀ q, (.slice la2 ls.length lc2 : Value).ownBlock = some q → (Value.slice (some ⟨y2.heap.size, 0, none⟩) 0 0).ownBlock ≠ some q from fun q hq e => by have h := (World.ownsRow.lt (uh OL) q hq).2; have e2 : y2.heap.size = q := Option.some.inj e; omega)
    replace OL := Hd (own_kept (T := fun _ => False) (uh OL) (Touch.ofBelow hbs) (fun _ _ e => e))
    have OS := Hd (show (y2.alloc (.cells #[] 106)).ownsRow w0.heap.size 106 5 (.slice (some ⟨y2.heap.size, 0, none⟩) 0 0) 0 [] from World.ownsRow_made y2 #[] 0 (uh HBx).size (by unfold maxLen; omega) rfl)
    replace HBx := hbt HBx hbs
    refine outH hK ?_ (fun hHeld => ?_)
    ·exact uh HKS _ (uh HBx)
    clear hK K
    clear hbs
    generalize y2.alloc (.cells #[] 106) = y5 at *
    generalize y2.heap.size = bs at *
    refine rdy1 6 rfl (fun K hK => ?_)
    go_simp
    refine (uh HOW y5 ((uh B0).trans ((uh HBx).mono (uh B0).size))).mono ?_
    rintro e y6 ⟨ka2, kn2, kc2, rfl, hO, hbs⟩
    dsimp only [Br.key, Br.val, Br.at_, Br.kids] at hO ⊢
    obtain ⟨Sk, hSk⟩ : ∃ Sk : Nat → Prop, Sk = fun x => y5.heap.size ≤ x ∧ x < y6.heap.size := ⟨_, rfl⟩
    rw [← hSk] at hO
    have SKB := Hd (show ∀ x, Sk x → w0.heap.size ≤ x ∧ x < y6.heap.size from fun x hx => by rw [hSk] at hx; exact ⟨Nat.le_trans (uh HBx).size hx.1, hx.2⟩)
    have DKL := Hd (show ∀ q, Sk q → (.slice la2 ls.length lc2 : Value).ownBlock ≠ some q from fun q hq e => by rw [hSk] at hq; have h := (World.ownsRow.lt (uh OL) q e).2; have h2 := hq.1; omega)
    have DKS := Hd (show ∀ q, Sk q → (.slice (some ⟨bs, 0, none⟩) 0 0 : Value).ownBlock ≠ some q from fun q hq e => by rw [hSk] at hq; have h := (World.ownsRow.lt (uh OS) q e).2; have h2 := hq.1; omega)
    replace OL := Hd (own_kept (T := fun _ => False) (uh OL) (Touch.ofBelow hbs) (fun _ _ e => e))
    replace OS := Hd (own_kept (T := fun _ => False) (uh OS) (Touch.ofBelow hbs) (fun _ _ e => e))
    have OK := Hd hO
    replace HBx := hbt HBx hbs
    clear hO hSk hbs
    go_wp2_with fail
    refine outH hK ?_ (fun hHeld => ?_)
    ·exact uh HKS _ (uh HBx)
    clear hK K
    have hbsl := ((World.ownsRow.lt (uh OS) bs rfl)).2
    refine rdy1 10 rfl (fun K hK => ?_)
    refine step_append_row rfl _ _ _ rfl w0.heap.size 106 j0 _ 5 48 Tryz.underlying36 hj hy0 hy1 hy2 rfl (by omega) _ 0 [] rfl (uh OS) _ ss.length (sesC ss) rfl ((uh HSe).below ((uh B0).trans ((uh HBx).mono (uh B0).size))).rw (sesC_len ss) (sesC_one ss) (by unfold maxLen; omega) (by omega) (uh HBx).size ?_
    intro sa2 sc2 yz hown hgrow hat
    have hgt := grownR hgrow
    have hltL := fun q hq => (World.ownsRow.lt (uh OL) q hq).2
    have DL2 := Hd (show ∀ q, (.slice la2 ls.length lc2 : Value).ownBlock = some q → (Value.slice sa2 (0 + ss.length) sc2).ownBlock ≠ some q from fun q hq e => by
     rcases hat with h | h
     ·exact (uh DLS) q hq (h.symm.trans e)
     ·have h9 : y6.heap.size = q := Option.some.inj (h.symm.trans e)
      have h8 := hltL q hq
      omega)
    have DK2 := Hd (show ∀ q, Sk q → (Value.slice sa2 (0 + ss.length) sc2).ownBlock ≠ some q from fun q hq e => by
     rcases hat with h | h
     ·exact (uh DKS) q hq (h.symm.trans e)
     ·have h9 : y6.heap.size = q := Option.some.inj (h.symm.trans e)
      have h8 := ((uh SKB) q hq).2
      omega)
    replace OL := Hd (own_kept (uh OL) hgt (fun q hq e => (uh DLS) q hq e))
    replace OK := Hd ((uh OK).touch hgt (fun q hq e => (uh DKS) q hq e))
    replace SKB := Hd (fun x hx => (⟨((uh SKB) x hx).1, Nat.lt_of_lt_of_le ((uh SKB) x hx).2 hgt.size⟩ : w0.heap.size ≤ x ∧ x < _))
    replace HBx := Hd ((uh HBx).grown hgrow (uh HBx).size (fun r hr => (World.ownsRow.lt (uh OS) r hr).1))
    have OS2 := Hd hown
    clear OS hown hgrow hat hgt hltL DLS DKS hbsl
    refine outH hK ?_ (fun hHeld => ?_)
    ·exact uh HKS _ (uh HBx)
    clear hK K
    simp only [Nat.zero_add, List.nil_append] at OS2 DL2 DK2 ⊢
    refine tkH 11 rfl ?_
    have RX := (uh R0).below (uh HBx)
    obtain ⟨⟨r0, r1, r2, r3, r4, r5⟩, _⟩ := Blk.c6 RX
    have rf0 := RX.fro 0
    have rf1 := RX.fro 1
    have rf2 := RX.fro 2
    have rf3 := RX.fro 3
    have rf4 := RX.fro 4
    have rf5 := RX.fro 5
    have T9 := (((((((Touch.refl (fun x => x = w.heap.size + 1) yz).setCell ⟨w.heap.size + 1, 0, none⟩ (.slice la2 ls.length lc2) (fun _ => rfl)).setCell ⟨w.heap.size + 1, 1, none⟩ (.string k) (fun _ => rfl)).setCell ⟨w.heap.size + 1, 2, none⟩ (.string v) (fun _ => rfl)).setCell ⟨w.heap.size + 1, 3, none⟩ (.int .i64 a) (fun _ => rfl)).setCell ⟨w.heap.size + 1, 4, none⟩ (.slice ka2 kn2 kc2) (fun _ => rfl)).setCell ⟨w.heap.size + 1, 5, none⟩ (.slice sa2 ss.length sc2) (fun _ => rfl))
    have R9 := Hd ((((((RX.set 0 (.slice la2 ls.length lc2) (by simp)).set 1 (.string k) (by simp)).set 2 (.string v) (by simp)).set 3 (.int .i64 a) (by simp)).set 4 (.slice ka2 kn2 kc2) (by simp)).set 5 (.slice sa2 ss.length sc2) (by simp))
    have hsx := (uh HBx).size
    have hkc := fun (i : Nat) (u : Value) (h : w0.cell? ⟨w.heap.size, i, none⟩ = some u) => (T9.cell (p := ⟨w.heap.size, i, none⟩) (show w.heap.size < yz.heap.size by omega) (show ¬ w.heap.size = w.heap.size + 1 by omega)).trans (((uh HBx).cell (p := ⟨w.heap.size, i, none⟩) hlb).trans h)
    refine rdy1 12 rfl (fun K hK => ?_)
    go_simp
    refine outH hK ?_ (fun hHeld => ?_)
    ·exact ⟨hkc _ _ x0, hkc _ _ x1, hkc _ _ x2, hkc _ _ x3, hkc _ _ x4, hkc _ _ x5⟩
    clear hK K
    refine wpAnyH_done (by kernel_rfl) (NoPanic.normal ?_) _
    clear hHeld hkc
    have K9a := (uh B0).trans ((uh HBx).mono (uh B0).size)
    have K9 := Hd (K9a.trans (T9.below K9a.size (fun x hx e => by omega)))
    have L9 := Hd (show LedO w.heap.size _ (.slice la2 ls.length lc2) (.slice ka2 kn2 kc2) (.slice sa2 ss.length sc2) ls ks ss from ⟨OwnS.down' (own_kept (uh OL) T9 (fun q hq e => by have := (World.ownsRow.lt (uh OL) q hq).1; omega)) (by omega), OwnSe.down (own_kept (uh OS2) T9 (fun q hq e => by have := (World.ownsRow.lt (uh OS2) q hq).1; omega)) (by omega), uh DL2, Sk, (uh OK).touch T9 (fun q hq e => by have := ((uh SKB) q hq).1; omega), fun x hx => ⟨by have := ((uh SKB) x hx).1; omega, Nat.lt_of_lt_of_le ((uh SKB) x hx).2 T9.size, (uh DKL) x hx, (uh DK2) x hx⟩⟩)
    clear T9 K9a RX
    generalize ((((((yz.setCell ⟨w.heap.size + 1, 0, none⟩ (.slice la2 ls.length lc2)).setCell ⟨w.heap.size + 1, 1, none⟩ (.string k)).setCell ⟨w.heap.size + 1, 2, none⟩ (.string v)).setCell ⟨w.heap.size + 1, 3, none⟩ (.int .i64 a)).setCell ⟨w.heap.size + 1, 4, none⟩ (.slice ka2 kn2 kc2)).setCell ⟨w.heap.size + 1, 5, none⟩ (.slice sa2 ss.length sc2)) = w9 at *
    go_wp2_with fail
    have R9' := uh R9
    obtain ⟨⟨z0, z1, z2, z3, z4, z5⟩, _⟩ := Blk.c6 R9'
    refine bodyPost_ret (v := .agg #[.slice la2 ls.length lc2, .string k, .string v, .int .i64 a, .slice ka2 kn2 kc2, .slice sa2 ss.length sc2]) (by simp [results, Tryz.results33, go_sem, z0, z1, z2, z3, z4, z5]) rfl ?_
    exact ⟨_, _, _, _, _, _, _, rfl, uh L9, uh K9⟩
  ·go_simp
   have hbs := bal y1 (.cells #[] 106)
   have DLS := Hd (show ∀ q, (.slice (some ⟨bl, 0, none⟩) 0 0 : Value).ownBlock = some q → (Value.slice (some ⟨y1.heap.size, 0, none⟩) 0 0).ownBlock ≠ some q from fun q hq e => by have h := (World.ownsRow.lt (uh OL) q hq).2; have e2 : y1.heap.size = q := Option.some.inj e; omega)
   replace OL := Hd (own_kept (T := fun _ => False) (uh OL) (Touch.ofBelow hbs) (fun _ _ e => e))
   have OS := Hd (show (y1.alloc (.cells #[] 106)).ownsRow w0.heap.size 106 5 (.slice (some ⟨y1.heap.size, 0, none⟩) 0 0) 0 [] from World.ownsRow_made y1 #[] 0 (uh HBx).size (by unfold maxLen; omega) rfl)
   replace HBx := hbt HBx hbs
   refine outH hK ?_ (fun hHeld => ?_)
   ·exact uh HKS _ (uh HBx)
   clear hK K
   clear hbs
   generalize y1.alloc (.cells #[] 106) = y7 at *
   generalize y1.heap.size = bs at *
   refine rdy1 3 rfl (fun K hK => ?_)
   have hbsl := ((World.ownsRow.lt (uh OS) bs rfl)).2
   refine step_append_row rfl _ _ _ rfl w0.heap.size 9 i0 _ 1 16 Tryz.underlying22 hi hz0 hz1 hz2 rfl (by omega) _ 0 [] rfl (uh OL) _ ls.length (ls.map Value.string) rfl ((uh HS).below ((uh B0).trans ((uh HBx).mono (uh B0).size))).rw (by simp) (by simp [Value.oneCell']) (by unfold maxLen; omega) (by omega) (uh HBx).size ?_
   intro la2 lc2 y8 hown hgrow hat
   have hgt := grownR hgrow
   replace OS := Hd (own_kept (uh OS) hgt (fun q hq e => (uh DLS) q e hq))
   have DL2 := Hd (show ∀ q, (Value.slice la2 (0 + ls.length) lc2).ownBlock = some q → (.slice (some ⟨bs, 0, none⟩) 0 0 : Value).ownBlock ≠ some q from fun q hq e => by
    rcases hat with h | h
    ·exact (uh DLS) q (h.symm.trans hq) e
    ·have h9 : y7.heap.size = q := Option.some.inj (h.symm.trans hq)
     have h8 : bs = q := Option.some.inj e
     omega)
   clear DLS
   replace HBx := Hd ((uh HBx).grown hgrow (uh HBx).size (fun r hr => (World.ownsRow.lt (uh OL) r hr).1))
   replace OL := Hd hown
   clear hown hgrow hat hgt
   refine outH hK ?_ (fun hHeld => ?_)
   ·exact uh HKS _ (uh HBx)
   clear hK K
   simp only [Nat.zero_add, List.nil_append] at OL DL2 ⊢
   have DLS := DL2
   clear DL2 hbsl
   refine rdy1 6 rfl (fun K hK => ?_)
   go_simp
   refine (uh HOW y8 ((uh B0).trans ((uh HBx).mono (uh B0).size))).mono ?_
   rintro e y9 ⟨ka2, kn2, kc2, rfl, hO, hbs⟩
   dsimp only [Br.key, Br.val, Br.at_, Br.kids] at hO ⊢
   obtain ⟨Sk, hSk⟩ : ∃ Sk : Nat → Prop, Sk = fun x => y8.heap.size ≤ x ∧ x < y9.heap.size := ⟨_, rfl⟩
   rw [← hSk] at hO
   have SKB := Hd (show ∀ x, Sk x → w0.heap.size ≤ x ∧ x < y9.heap.size from fun x hx => by rw [hSk] at hx; exact ⟨Nat.le_trans (uh HBx).size hx.1, hx.2⟩)
   have DKL := Hd (show ∀ q, Sk q → (.slice la2 ls.length lc2 : Value).ownBlock ≠ some q from fun q hq e => by rw [hSk] at hq; have h := (World.ownsRow.lt (uh OL) q e).2; have h2 := hq.1; omega)
   have DKS := Hd (show ∀ q, Sk q → (.slice (some ⟨bs, 0, none⟩) 0 0 : Value).ownBlock ≠ some q from fun q hq e => by rw [hSk] at hq; have h := (World.ownsRow.lt (uh OS) q e).2; have h2 := hq.1; omega)
   replace OL := Hd (own_kept (T := fun _ => False) (uh OL) (Touch.ofBelow hbs) (fun _ _ e => e))
   replace OS := Hd (own_kept (T := fun _ => False) (uh OS) (Touch.ofBelow hbs) (fun _ _ e => e))
   have OK := Hd hO
   replace HBx := hbt HBx hbs
   clear hO hSk hbs
   go_wp2_with fail
   refine outH hK ?_ (fun hHeld => ?_)
   ·exact uh HKS _ (uh HBx)
   clear hK K
   have hbsl := ((World.ownsRow.lt (uh OS) bs rfl)).2
   refine rdy1 10 rfl (fun K hK => ?_)
   refine step_append_row rfl _ _ _ rfl w0.heap.size 106 j0 _ 5 48 Tryz.underlying36 hj hy0 hy1 hy2 rfl (by omega) _ 0 [] rfl (uh OS) _ ss.length (sesC ss) rfl ((uh HSe).below ((uh B0).trans ((uh HBx).mono (uh B0).size))).rw (sesC_len ss) (sesC_one ss) (by unfold maxLen; omega) (by omega) (uh HBx).size ?_
   intro sa2 sc2 yz hown hgrow hat
   have hgt := grownR hgrow
   have hltL := fun q hq => (World.ownsRow.lt (uh OL) q hq).2
   have DL2 := Hd (show ∀ q, (.slice la2 ls.length lc2 : Value).ownBlock = some q → (Value.slice sa2 (0 + ss.length) sc2).ownBlock ≠ some q from fun q hq e => by
    rcases hat with h | h
    ·exact (uh DLS) q hq (h.symm.trans e)
    ·have h9 : y9.heap.size = q := Option.some.inj (h.symm.trans e)
     have h8 := hltL q hq
     omega)
   have DK2 := Hd (show ∀ q, Sk q → (Value.slice sa2 (0 + ss.length) sc2).ownBlock ≠ some q from fun q hq e => by
    rcases hat with h | h
    ·exact (uh DKS) q hq (h.symm.trans e)
    ·have h9 : y9.heap.size = q := Option.some.inj (h.symm.trans e)
     have h8 := ((uh SKB) q hq).2
     omega)
   replace OL := Hd (own_kept (uh OL) hgt (fun q hq e => (uh DLS) q hq e))
   replace OK := Hd ((uh OK).touch hgt (fun q hq e => (uh DKS) q hq e))
   replace SKB := Hd (fun x hx => (⟨((uh SKB) x hx).1, Nat.lt_of_lt_of_le ((uh SKB) x hx).2 hgt.size⟩ : w0.heap.size ≤ x ∧ x < _))
   replace HBx := Hd ((uh HBx).grown hgrow (uh HBx).size (fun r hr => (World.ownsRow.lt (uh OS) r hr).1))
   have OS2 := Hd hown
   clear OS hown hgrow hat hgt hltL DLS DKS hbsl
   refine outH hK ?_ (fun hHeld => ?_)
   ·exact uh HKS _ (uh HBx)
   clear hK K
   simp only [Nat.zero_add, List.nil_append] at OS2 DL2 DK2 ⊢
   refine tkH 11 rfl ?_
   have RX := (uh R0).below (uh HBx)
   obtain ⟨⟨r0, r1, r2, r3, r4, r5⟩, _⟩ := Blk.c6 RX
   have rf0 := RX.fro 0
   have rf1 := RX.fro 1
   have rf2 := RX.fro 2
   have rf3 := RX.fro 3
   have rf4 := RX.fro 4
   have rf5 := RX.fro 5
   have T9 := (((((((Touch.refl (fun x => x = w.heap.size + 1) yz).setCell ⟨w.heap.size + 1, 0, none⟩ (.slice la2 ls.length lc2) (fun _ => rfl)).setCell ⟨w.heap.size + 1, 1, none⟩ (.string k) (fun _ => rfl)).setCell ⟨w.heap.size + 1, 2, none⟩ (.string v) (fun _ => rfl)).setCell ⟨w.heap.size + 1, 3, none⟩ (.int .i64 a) (fun _ => rfl)).setCell ⟨w.heap.size + 1, 4, none⟩ (.slice ka2 kn2 kc2) (fun _ => rfl)).setCell ⟨w.heap.size + 1, 5, none⟩ (.slice sa2 ss.length sc2) (fun _ => rfl))
   have R9 := Hd ((((((RX.set 0 (.slice la2 ls.length lc2) (by simp)).set 1 (.string k) (by simp)).set 2 (.string v) (by simp)).set 3 (.int .i64 a) (by simp)).set 4 (.slice ka2 kn2 kc2) (by simp)).set 5 (.slice sa2 ss.length sc2) (by simp))
   have hsx := (uh HBx).size
   have hkc := fun (i : Nat) (u : Value) (h : w0.cell? ⟨w.heap.size, i, none⟩ = some u) => (T9.cell (p := ⟨w.heap.size, i, none⟩) (show w.heap.size < yz.heap.size by omega) (show ¬ w.heap.size = w.heap.size + 1 by omega)).trans (((uh HBx).cell (p := ⟨w.heap.size, i, none⟩) hlb).trans h)
   refine rdy1 12 rfl (fun K hK => ?_)
   go_simp
   refine outH hK ?_ (fun hHeld => ?_)
   ·exact ⟨hkc _ _ x0, hkc _ _ x1, hkc _ _ x2, hkc _ _ x3, hkc _ _ x4, hkc _ _ x5⟩
   clear hK K
   refine wpAnyH_done (by kernel_rfl) (NoPanic.normal ?_) _
   clear hHeld hkc
   have K9a := (uh B0).trans ((uh HBx).mono (uh B0).size)
   have K9 := Hd (K9a.trans (T9.below K9a.size (fun x hx e => by omega)))
   have L9 := Hd (show LedO w.heap.size _ (.slice la2 ls.length lc2) (.slice ka2 kn2 kc2) (.slice sa2 ss.length sc2) ls ks ss from ⟨OwnS.down' (own_kept (uh OL) T9 (fun q hq e => by have := (World.ownsRow.lt (uh OL) q hq).1; omega)) (by omega), OwnSe.down (own_kept (uh OS2) T9 (fun q hq e => by have := (World.ownsRow.lt (uh OS2) q hq).1; omega)) (by omega), uh DL2, Sk, (uh OK).touch T9 (fun q hq e => by have := ((uh SKB) q hq).1; omega), fun x hx => ⟨by have := ((uh SKB) x hx).1; omega, Nat.lt_of_lt_of_le ((uh SKB) x hx).2 T9.size, (uh DKL) x hx, (uh DK2) x hx⟩⟩)
   clear T9 K9a RX
   generalize ((((((yz.setCell ⟨w.heap.size + 1, 0, none⟩ (.slice la2 ls.length lc2)).setCell ⟨w.heap.size + 1, 1, none⟩ (.string k)).setCell ⟨w.heap.size + 1, 2, none⟩ (.string v)).setCell ⟨w.heap.size + 1, 3, none⟩ (.int .i64 a)).setCell ⟨w.heap.size + 1, 4, none⟩ (.slice ka2 kn2 kc2)).setCell ⟨w.heap.size + 1, 5, none⟩ (.slice sa2 ss.length sc2)) = w9 at *
   go_wp2_with fail
   have R9' := uh R9
   obtain ⟨⟨z0, z1, z2, z3, z4, z5⟩, _⟩ := Blk.c6 R9'
   refine bodyPost_ret (v := .agg #[.slice la2 ls.length lc2, .string k, .string v, .int .i64 a, .slice ka2 kn2 kc2, .slice sa2 ss.length sc2]) (by simp [results, Tryz.results33, go_sem, z0, z1, z2, z3, z4, z5]) rfl ?_
   exact ⟨_, _, _, _, _, _, _, rfl, uh L9, uh K9⟩
 ·go_simp
  have hbs := bal y0 (.cells #[] 106)
  have OS := Hd (show (y0.alloc (.cells #[] 106)).ownsRow w0.heap.size 106 5 (.slice (some ⟨y0.heap.size, 0, none⟩) 0 0) 0 [] from World.ownsRow_made y0 #[] 0 (uh HBx).size (by unfold maxLen; omega) rfl)
  replace HBx := hbt HBx hbs
  refine outH hK ?_ (fun hHeld => ?_)
  ·exact uh HKS _ (uh HBx)
  clear hK K
  clear hbs
  generalize y0.alloc (.cells #[] 106) = y10 at *
  generalize y0.heap.size = bs at *
  refine rdy1 0 rfl (fun K hK => ?_)
  go_simp
  have hbs := bal y10 (.cells #[] 9)
  have DLS := Hd (show ∀ q, (Value.slice (some ⟨y10.heap.size, 0, none⟩) 0 0).ownBlock = some q → (.slice (some ⟨bs, 0, none⟩) 0 0 : Value).ownBlock ≠ some q from fun q hq e => by have h := (World.ownsRow.lt (uh OS) q e).2; have e2 : y10.heap.size = q := Option.some.inj hq; omega)
  replace OS := Hd (own_kept (T := fun _ => False) (uh OS) (Touch.ofBelow hbs) (fun _ _ e => e))
  have OL := Hd (show (y10.alloc (.cells #[] 9)).ownsRow w0.heap.size 9 1 (.slice (some ⟨y10.heap.size, 0, none⟩) 0 0) 0 [] from World.ownsRow_made y10 #[] 0 (uh HBx).size (by unfold maxLen; omega) rfl)
  replace HBx := hbt HBx hbs
  refine outH hK ?_ (fun hHeld => ?_)
  ·exact uh HKS _ (uh HBx)
  clear hK K
  clear hbs
  generalize y10.alloc (.cells #[] 9) = y11 at *
  generalize y10.heap.size = bl at *
  refine rdy1 3 rfl (fun K hK => ?_)
  have hbsl := ((World.ownsRow.lt (uh OS) bs rfl)).2
  refine step_append_row rfl _ _ _ rfl w0.heap.size 9 i0 _ 1 16 Tryz.underlying22 hi hz0 hz1 hz2 rfl (by omega) _ 0 [] rfl (uh OL) _ ls.length (ls.map Value.string) rfl ((uh HS).below ((uh B0).trans ((uh HBx).mono (uh B0).size))).rw (by simp) (by simp [Value.oneCell']) (by unfold maxLen; omega) (by omega) (uh HBx).size ?_
  intro la2 lc2 y12 hown hgrow hat
  have hgt := grownR hgrow
  replace OS := Hd (own_kept (uh OS) hgt (fun q hq e => (uh DLS) q e hq))
  have DL2 := Hd (show ∀ q, (Value.slice la2 (0 + ls.length) lc2).ownBlock = some q → (.slice (some ⟨bs, 0, none⟩) 0 0 : Value).ownBlock ≠ some q from fun q hq e => by
   rcases hat with h | h
   ·exact (uh DLS) q (h.symm.trans hq) e
   ·have h9 : y11.heap.size = q := Option.some.inj (h.symm.trans hq)
    have h8 : bs = q := Option.some.inj e
    omega)
  clear DLS
  replace HBx := Hd ((uh HBx).grown hgrow (uh HBx).size (fun r hr => (World.ownsRow.lt (uh OL) r hr).1))
  replace OL := Hd hown
  clear hown hgrow hat hgt
  refine outH hK ?_ (fun hHeld => ?_)
  ·exact uh HKS _ (uh HBx)
  clear hK K
  simp only [Nat.zero_add, List.nil_append] at OL DL2 ⊢
  have DLS := DL2
  clear DL2 hbsl
  refine rdy1 6 rfl (fun K hK => ?_)
  go_simp
  refine (uh HOW y12 ((uh B0).trans ((uh HBx).mono (uh B0).size))).mono ?_
  rintro e y13 ⟨ka2, kn2, kc2, rfl, hO, hbs⟩
  dsimp only [Br.key, Br.val, Br.at_, Br.kids] at hO ⊢
  obtain ⟨Sk, hSk⟩ : ∃ Sk : Nat → Prop, Sk = fun x => y12.heap.size ≤ x ∧ x < y13.heap.size := ⟨_, rfl⟩
  rw [← hSk] at hO
  have SKB := Hd (show ∀ x, Sk x → w0.heap.size ≤ x ∧ x < y13.heap.size from fun x hx => by rw [hSk] at hx; exact ⟨Nat.le_trans (uh HBx).size hx.1, hx.2⟩)
  have DKL := Hd (show ∀ q, Sk q → (.slice la2 ls.length lc2 : Value).ownBlock ≠ some q from fun q hq e => by rw [hSk] at hq; have h := (World.ownsRow.lt (uh OL) q e).2; have h2 := hq.1; omega)
  have DKS := Hd (show ∀ q, Sk q → (.slice (some ⟨bs, 0, none⟩) 0 0 : Value).ownBlock ≠ some q from fun q hq e => by rw [hSk] at hq; have h := (World.ownsRow.lt (uh OS) q e).2; have h2 := hq.1; omega)
  replace OL := Hd (own_kept (T := fun _ => False) (uh OL) (Touch.ofBelow hbs) (fun _ _ e => e))
  replace OS := Hd (own_kept (T := fun _ => False) (uh OS) (Touch.ofBelow hbs) (fun _ _ e => e))
  have OK := Hd hO
  replace HBx := hbt HBx hbs
  clear hO hSk hbs
  go_wp2_with fail
  refine outH hK ?_ (fun hHeld => ?_)
  ·exact uh HKS _ (uh HBx)
  clear hK K
  have hbsl := ((World.ownsRow.lt (uh OS) bs rfl)).2
  refine rdy1 10 rfl (fun K hK => ?_)
  refine step_append_row rfl _ _ _ rfl w0.heap.size 106 j0 _ 5 48 Tryz.underlying36 hj hy0 hy1 hy2 rfl (by omega) _ 0 [] rfl (uh OS) _ ss.length (sesC ss) rfl ((uh HSe).below ((uh B0).trans ((uh HBx).mono (uh B0).size))).rw (sesC_len ss) (sesC_one ss) (by unfold maxLen; omega) (by omega) (uh HBx).size ?_
  intro sa2 sc2 yz hown hgrow hat
  have hgt := grownR hgrow
  have hltL := fun q hq => (World.ownsRow.lt (uh OL) q hq).2
  have DL2 := Hd (show ∀ q, (.slice la2 ls.length lc2 : Value).ownBlock = some q → (Value.slice sa2 (0 + ss.length) sc2).ownBlock ≠ some q from fun q hq e => by
   rcases hat with h | h
   ·exact (uh DLS) q hq (h.symm.trans e)
   ·have h9 : y13.heap.size = q := Option.some.inj (h.symm.trans e)
    have h8 := hltL q hq
    omega)
  have DK2 := Hd (show ∀ q, Sk q → (Value.slice sa2 (0 + ss.length) sc2).ownBlock ≠ some q from fun q hq e => by
   rcases hat with h | h
   ·exact (uh DKS) q hq (h.symm.trans e)
   ·have h9 : y13.heap.size = q := Option.some.inj (h.symm.trans e)
    have h8 := ((uh SKB) q hq).2
    omega)
  replace OL := Hd (own_kept (uh OL) hgt (fun q hq e => (uh DLS) q hq e))
  replace OK := Hd ((uh OK).touch hgt (fun q hq e => (uh DKS) q hq e))
  replace SKB := Hd (fun x hx => (⟨((uh SKB) x hx).1, Nat.lt_of_lt_of_le ((uh SKB) x hx).2 hgt.size⟩ : w0.heap.size ≤ x ∧ x < _))
  replace HBx := Hd ((uh HBx).grown hgrow (uh HBx).size (fun r hr => (World.ownsRow.lt (uh OS) r hr).1))
  have OS2 := Hd hown
  clear OS hown hgrow hat hgt hltL DLS DKS hbsl
  refine outH hK ?_ (fun hHeld => ?_)
  ·exact uh HKS _ (uh HBx)
  clear hK K
  simp only [Nat.zero_add, List.nil_append] at OS2 DL2 DK2 ⊢
  refine tkH 11 rfl ?_
  have RX := (uh R0).below (uh HBx)
  obtain ⟨⟨r0, r1, r2, r3, r4, r5⟩, _⟩ := Blk.c6 RX
  have rf0 := RX.fro 0
  have rf1 := RX.fro 1
  have rf2 := RX.fro 2
  have rf3 := RX.fro 3
  have rf4 := RX.fro 4
  have rf5 := RX.fro 5
  have T9 := (((((((Touch.refl (fun x => x = w.heap.size + 1) yz).setCell ⟨w.heap.size + 1, 0, none⟩ (.slice la2 ls.length lc2) (fun _ => rfl)).setCell ⟨w.heap.size + 1, 1, none⟩ (.string k) (fun _ => rfl)).setCell ⟨w.heap.size + 1, 2, none⟩ (.string v) (fun _ => rfl)).setCell ⟨w.heap.size + 1, 3, none⟩ (.int .i64 a) (fun _ => rfl)).setCell ⟨w.heap.size + 1, 4, none⟩ (.slice ka2 kn2 kc2) (fun _ => rfl)).setCell ⟨w.heap.size + 1, 5, none⟩ (.slice sa2 ss.length sc2) (fun _ => rfl))
  have R9 := Hd ((((((RX.set 0 (.slice la2 ls.length lc2) (by simp)).set 1 (.string k) (by simp)).set 2 (.string v) (by simp)).set 3 (.int .i64 a) (by simp)).set 4 (.slice ka2 kn2 kc2) (by simp)).set 5 (.slice sa2 ss.length sc2) (by simp))
  have hsx := (uh HBx).size
  have hkc := fun (i : Nat) (u : Value) (h : w0.cell? ⟨w.heap.size, i, none⟩ = some u) => (T9.cell (p := ⟨w.heap.size, i, none⟩) (show w.heap.size < yz.heap.size by omega) (show ¬ w.heap.size = w.heap.size + 1 by omega)).trans (((uh HBx).cell (p := ⟨w.heap.size, i, none⟩) hlb).trans h)
  refine rdy1 12 rfl (fun K hK => ?_)
  go_simp
  refine outH hK ?_ (fun hHeld => ?_)
  ·exact ⟨hkc _ _ x0, hkc _ _ x1, hkc _ _ x2, hkc _ _ x3, hkc _ _ x4, hkc _ _ x5⟩
  clear hK K
  refine wpAnyH_done (by kernel_rfl) (NoPanic.normal ?_) _
  clear hHeld hkc
  have K9a := (uh B0).trans ((uh HBx).mono (uh B0).size)
  have K9 := Hd (K9a.trans (T9.below K9a.size (fun x hx e => by omega)))
  have L9 := Hd (show LedO w.heap.size _ (.slice la2 ls.length lc2) (.slice ka2 kn2 kc2) (.slice sa2 ss.length sc2) ls ks ss from ⟨OwnS.down' (own_kept (uh OL) T9 (fun q hq e => by have := (World.ownsRow.lt (uh OL) q hq).1; omega)) (by omega), OwnSe.down (own_kept (uh OS2) T9 (fun q hq e => by have := (World.ownsRow.lt (uh OS2) q hq).1; omega)) (by omega), uh DL2, Sk, (uh OK).touch T9 (fun q hq e => by have := ((uh SKB) q hq).1; omega), fun x hx => ⟨by have := ((uh SKB) x hx).1; omega, Nat.lt_of_lt_of_le ((uh SKB) x hx).2 T9.size, (uh DKL) x hx, (uh DK2) x hx⟩⟩)
  clear T9 K9a RX
  generalize ((((((yz.setCell ⟨w.heap.size + 1, 0, none⟩ (.slice la2 ls.length lc2)).setCell ⟨w.heap.size + 1, 1, none⟩ (.string k)).setCell ⟨w.heap.size + 1, 2, none⟩ (.string v)).setCell ⟨w.heap.size + 1, 3, none⟩ (.int .i64 a)).setCell ⟨w.heap.size + 1, 4, none⟩ (.slice ka2 kn2 kc2)).setCell ⟨w.heap.size + 1, 5, none⟩ (.slice sa2 ss.length sc2)) = w9 at *
  go_wp2_with fail
  have R9' := uh R9
  obtain ⟨⟨z0, z1, z2, z3, z4, z5⟩, _⟩ := Blk.c6 R9'
  refine bodyPost_ret (v := .agg #[.slice la2 ls.length lc2, .string k, .string v, .int .i64 a, .slice ka2 kn2 kc2, .slice sa2 ss.length sc2]) (by simp [results, Tryz.results33, go_sem, z0, z1, z2, z3, z4, z5]) rfl ?_
  exact ⟨_, _, _, _, _, _, _, rfl, uh L9, uh K9⟩
end Go.Proofs.YtnhhnjmjodmacaaGreatDoor.Sha
