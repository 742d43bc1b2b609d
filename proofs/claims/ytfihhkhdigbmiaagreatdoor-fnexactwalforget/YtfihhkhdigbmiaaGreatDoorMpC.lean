/- A table of files: listed in the order of their names. -/
import Derived.Test.YtfihhkhdigbmiaaGreatDoorMpB
import Derived.Test.YtfihhkhdigbmiaaGreatDoorShM
import Derived.Test.YtfihhkhdigbmiaaGreatDoorFilL
import Derived.Test.YtfihhkhdigbmiaaGreatDoorAppR
import Derived.Deep.AppendLies
namespace Go.Proofs.YtfihhkhdigbmiaaGreatDoor
open Go.ChangeShapes Go.WideShapes Go.ChangeAt Go.RowKit Go.Maps Go.Sort Go.Shelf
set_option linter.unusedVariables false
set_option linter.unusedSimpArgs false

theorem sortsF (m : Nat) : AnyZ.SortsIn Tryz.prog Tryz.sorted84_ren Fence.wide m :=
  ⟨fun blk off cap ss W hH hblk hsz => callsIn_wide.2 (AnyM.slices_Sort_string Tryz.sort93 blk off cap ss W hH hblk hsz),
   fun p cap W => callsIn_wide.2 (AnyM.slices_Sort_string_none Tryz.sort93 p cap W)⟩
theorem keys_any (mb : Option Nat) (W : World) : Calls Tryz.prog 85 #[.map mb] W fun e w' => e = .returned (.func (.func 94) #[] #[.pointer (some ⟨W.heap.size, 0, none⟩)]) ∧ w' = W.alloc (.cells #[.map mb] 103) :=
  callsIn_wide.1 (AnyZ.keys_in Tryz.keys85 Fence.wide 5 trivial rfl mb W)
set_option maxHeartbeats 1000000 in
theorem sorted_raw (b nn : Nat) (D0 : DataW Unit) (R : Value → Option (DataW Unit × List MemPlace)) (w : World) (hown : w.ownsMap Tryz.prog 9 R b nn D0) (hmax : Maps.size D0 ≤ maxLen) (hbytes : Maps.size D0 * 16 ≤ 140737488355328) :
    CallsIn Fence.wide 5 Tryz.prog 84 #[.func (.func 94) #[] #[.pointer (some ⟨w.heap.size, 0, none⟩)]] (w.alloc (.cells #[.map (some b)] 103)) fun e w' => ∃ (v : Value) (ss : List (List UInt8)), e = .returned v ∧ ss.Perm (strKeys D0) ∧
      w'.ownsRow (w.alloc (.cells #[.map (some b)] 103)).heap.size 9 1 v ss.length ((ss.mergeSort (fun x y => decide (x ≤ y))).map encStr) ∧ (v = .slice none 0 0 ↔ ss = []) ∧ Below (w.alloc (.cells #[.map (some b)] 103)).heap.size (w.alloc (.cells #[.map (some b)] 103)) w' := by
  have hbl := hown.lt
  have hseq : SeqGives Fence.wide 2 Tryz.prog 94 #[.pointer (some ⟨w.heap.size, 0, none⟩)] encStr (fun ss => ss.Perm (strKeys D0)) (Maps.size D0) (w.alloc (.cells #[.map (some b)] 103)) :=
    AnyZ.keys_gives (ρ := Tryz.keys85_ren) { Tryz.keys85 with } Fence.wide _ trivial rfl (by omega) w.heap.size b nn D0 _ (by simp) (by simp) (by
      obtain ⟨es, clock, hb, Ft, hs, hD⟩ := hown
      exact ⟨es, clock, (Below.heap_alloc _ _ b hbl).trans hb, Ft, hs, hD⟩)
  exact AnyZ.sorted_in Tryz.sorted84 Fence.wide 5 trivial trivial trivial trivial rfl (by omega) (sortsF _) (enters_of Tryz.func93 (by kernel_rfl) rfl) 94 #[.pointer (some ⟨w.heap.size, 0, none⟩)] trivial (enters_of Tryz.func94 (by kernel_rfl) rfl) _ _ hmax hbytes _ hseq
theorem encStr_nm (f : Fl) : encStr (nmL f) = .string f.n := by
  unfold encStr nmL
  simp
/-- The names, in order. -/
theorem sorted_any (b : Nat) (l : List Fl) (w : World) (h : FMap w b l) (hr : Ris l) (hl : l.length ≤ 1048576) :
    Calls Tryz.prog 84 #[.func (.func 94) #[] #[.pointer (some ⟨w.heap.size, 0, none⟩)]] (w.alloc (.cells #[.map (some b)] 103)) fun e w' => ∃ v, e = .returned v ∧ OwnS w.heap.size w' v (l.map Fl.n) ∧ Below (w.alloc (.cells #[.map (some b)] 103)).heap.size (w.alloc (.cells #[.map (some b)] 103)) w' := by
  have hz := size_mapD l
  refine (callsIn_wide.1 (sorted_raw b _ _ flR w h (by rw [hz]; unfold maxLen; omega) (by rw [hz]; omega))).mono ?_
  rintro e w' ⟨v, ss, rfl, hp, hrow, _, hb⟩
  refine ⟨v, rfl, ?_, hb⟩
  rw [sort_keys hr hp] at hrow
  have hlen : ss.length = (l.map Fl.n).length := by rw [hp.length_eq, keys_mapD]; simp
  have hmap : (l.map nmL).map encStr = (l.map Fl.n).map Value.string := by
    rw [List.map_map, List.map_map]
    exact List.map_congr_left fun f _ => encStr_nm f
  rw [hmap, hlen] at hrow
  exact World.ownsRow.mono hrow (by simp)
theorem flsC_snoc (l : List Fl) (f : Fl) : flsC (l ++ [f]) = flsC l ++ flC f := by simp [flsC]
set_option maxRecDepth 100000 in
set_option maxHeartbeats 4000000 in
/-- The files, listed. -/
theorem list_any (room : Int) (t b : Nat) (l : List Fl) (w : World) (hT : Blk w t [.int .i64 room, .map (some b)]) (hM : FMap w b l) (hr : Ris l) (hl : l.length ≤ 8) (hz : ∀ i, (l.getD i default).n.size ≤ maxLen) :
    Calls Tryz.prog 73 #[.pointer (some ⟨t, 0, none⟩)] w fun e w' => ∃ v, e = .returned v ∧ OwnF w.heap.size w' v l ∧ Below w.heap.size w w' := by
  obtain ⟨i0, hi, hz0, hz1, hz2⟩ := info_parts infoF
  have t1 := hT.cell 1 rfl
  have T0 := hide hT
  have M0 := hide hM
  have HZ := hide hz
  have HS := hide (sorted_any b l w hM hr (by omega))
  have HR := hide hr
  clear hT hM hz hr
  go_enter Tryz.func73, Tryz.ntmps73
  go_wp2_with fail
  refine (keys_any _ _).mono ?_
  rintro e w1 ⟨rfl, hw1⟩
  subst w1
  go_wp2_with fail
  refine (unhide HS).mono ?_
  rintro e w2 ⟨v, rfl, ho, hb⟩
  have B2 := hide (((Below.refl w.heap.size w).alloc (Nat.le_refl _) (.cells #[.map (some b)] 103)).trans (hb.mono (by simp)))
  have O2 := hide ho
  have hol := ho.strs
  obtain ⟨a, cap, rfl, hm, hc⟩ := hol
  have HC := hide hc
  clear hc ho hb HS t1
  have hnl : (l.map Fl.n).length = l.length := by simp
  rw [hnl]
  rw [hnl] at hm HC
  unfold maxLen at hm
  go_wp2_with fail
  go_loopw [3, 13] (fun lv i wr => ∃ k : Nat, k ≤ l.length ∧ i = .int .i64 k ∧ OwnF w2.heap.size wr lv (l.take k) ∧ Below w2.heap.size w2 wr) (fun _ i _ => l.length - (intOf i).toNat)
  case atStart => exact ⟨0, Nat.zero_le _, rfl, World.ownsRow_nil _ _ _ _, Below.refl _ _⟩
  case round =>
    obtain ⟨k, hk, rfl, hO, hb⟩ := hrel
    have HB := hide hb
    have HO := hide hO
    by_cases hlt : k < l.length
    · obtain ⟨bb2, off, rfl, hbl, hsrc⟩ : ∃ bq off, a = some ⟨bq, off, none⟩ ∧ bq < w2.heap.size ∧ ∀ i, i < l.length → w2.cell? ⟨bq, off + i, none⟩ = some (.string ((l.map Fl.n).getD i ByteArray.empty)) := by
        rcases unhide HC with h0 | h1
        · omega
        · exact h1
      have c0 := (hb.cell (p := ⟨bb2, off + k, none⟩) hbl).trans (hsrc k hlt)
      have hname : (l.map Fl.n).getD k ByteArray.empty = (l.getD k default).n := by
        rw [List.getD_eq_getElem?_getD, List.getD_eq_getElem?_getD, List.getElem?_map, List.getElem?_eq_getElem hlt]; rfl
      rw [hname] at c0
      have hcut : l = l.take k ++ l.getD k default :: l.drop (k + 1) := by
        rw [List.getD_eq_getElem?_getD, List.getElem?_eq_getElem hlt]
        simp
      have htk : l.take (k + 1) = l.take k ++ [l.getD k default] := by
        rw [List.take_add_one, List.getD_eq_getElem?_getD, List.getElem?_eq_getElem hlt]; rfl
      have hM1 := (unhide M0).kept ((unhide B2).trans (hb.mono (unhide B2).size))
      have hrr := unhide HR
      rw [hcut] at hM1 hrr
      have hlook := hM1.look (fun g hg => (ris_mid hrr).2.2.2 g (List.mem_append_left _ hg)) (unhide HZ k)
      clear hM1 hrr hcut
      have T1 := ((unhide T0).below ((unhide B2).trans (hb.mono (unhide B2).size))).cell 1 rfl
      have HTK := hide htk
      have hk0 : (0 : Int) ≤ (k : Int) := by omega
      have hk1 : (k : Int) < (l.length : Int) := by omega
      have htl : (l.take k).length ≤ 8 := by rw [List.length_take]; omega
      have htkl : Hid ((l.take k).length = k) := hide (by rw [List.length_take]; omega)
      have hbs := (unhide B2).size
      have hbs2 := hb.size
      clear hsrc hb hO htk hname
      generalize l.getD k default = f at *
      obtain ⟨fn, fd, fs⟩ := f
      unfold flV at hlook
      dsimp only at c0 hlook
      have O3 := hide ((unhide HO).below ((Below.refl wr.heap.size wr).alloc (Nat.le_refl _) (.cells #[.string fn, .string fd, .int .i64 fs] 68)))
      have B3 := hide ((unhide HB).alloc hbs2 (.cells #[.string fn, .string fd, .int .i64 fs] 68))
      clear HO HB
      go_wp2_with (at_builtin; refine wpList_append_lies _ rfl _ _ _ rfl w2.heap.size 68 i0 _ 3 40 Tryz.underlying26 hi hz0 hz1 hz2 rfl (by omega) u3 (l.take k).length _ rfl (unhide O3) ⟨wr.heap.size, 0, none⟩ 1 1 [_, _, _] rfl rfl (World.news_of_block (cs := #[_, _, _]) (t := 68) (fr := (0, 0)) (heap_alloc_new wr _)) (by simp [Value.oneCell']) (by omega) (by unfold maxLen; omega) (by omega) (by simp; omega) _ rfl ?_; intro g5 cap5 w5 hown5 hgrow5 hat5 hlt5; have P5 : OwnF w2.heap.size w5 (.slice (some ⟨g5, 0, none⟩) ((l.take k).length + 1) cap5) (l.take k ++ [⟨fn, fd, fs⟩]) := (by unfold OwnF; rw [flsC_snoc, List.length_append]; exact hown5); have R5 := hide (And.intro P5 ((unhide B3).grown hgrow5 (by simp; omega) (fun r hr => (World.ownsRow.lt (unhide O3) r hr).1))); clear P5 hown5 hgrow5 hat5 hlt5)
      refine ⟨⟨k + 1, by omega, by go_num, ?_, (unhide R5).2⟩, ?_⟩
      · rw [unhide HTK]; have h9 := (unhide R5).1; rw [unhide htkl] at h9; exact h9
      · simp [intOf]; omega
    · obtain rfl : k = l.length := by omega
      clear hb hO
      go_wp2_with fail
      go_ret
      refine ⟨_, rfl, ?_, (unhide B2).trans ((unhide HB).mono (unhide B2).size)⟩
      have := unhide HO
      rw [List.take_length] at this
      exact World.ownsRow.mono this (unhide B2).size
end Go.Proofs.YtfihhkhdigbmiaaGreatDoor
