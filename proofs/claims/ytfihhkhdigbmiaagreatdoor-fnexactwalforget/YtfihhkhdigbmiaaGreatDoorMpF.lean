/- A disk's acts, one after another: runActs, where each act finds its file. -/
import Derived.Test.YtfihhkhdigbmiaaGreatDoorMpE
namespace Go.Proofs.YtfihhkhdigbmiaaGreatDoor
open Go.ChangeShapes Go.WideShapes Go.ChangeAt Go.RowKit Go.Maps Go.Sort
set_option linter.unusedVariables false
set_option linter.unusedSimpArgs false

/-- What acts that sync a file or drop one leave. -/
inductive Steps : List Fl → List (Int × ByteArray) → List Fl → Prop
  | nil (l : List Fl) : Steps l [] l
  | sync (A B : List Fl) (n d : ByteArray) (s : Int) (r : List (Int × ByteArray)) (l : List Fl) : Steps (A ++ ⟨n, d, (d.size : Int)⟩ :: B) r l → Steps (A ++ ⟨n, d, s⟩ :: B) ((2, n) :: r) l
  | drop (A B : List Fl) (n d : ByteArray) (s : Int) (r : List (Int × ByteArray)) (l : List Fl) : Steps (A ++ B) r l → Steps (A ++ ⟨n, d, s⟩ :: B) ((4, n) :: r) l
structure OkL (l : List Fl) : Prop where
  ris : Ris l
  len : l.length ≤ 8
  sz : ∀ f ∈ l, f.n.size ≤ maxLen ∧ f.d.size ≤ maxLen
theorem ris_same {A B : List Fl} {f g : Fl} (hn : nmL f = nmL g) (h : Ris (A ++ f :: B)) : Ris (A ++ g :: B) := by
  unfold Ris at *
  rw [List.pairwise_append, List.pairwise_cons] at *
  obtain ⟨h1, ⟨h2, h3⟩, h4⟩ := h
  refine ⟨h1, ⟨fun x hx => ?_, h3⟩, fun a ha b hb => ?_⟩
  · have := h2 x hx; unfold bb at *; rwa [← hn]
  · rcases List.mem_cons.1 hb with rfl | hb
    · have := h4 a ha f (List.mem_cons_self ..); unfold bb at *; rwa [← hn]
    · exact h4 a ha b (List.mem_cons_of_mem _ hb)
theorem OkL.sync {A B : List Fl} {n d : ByteArray} {s z : Int} (h : OkL (A ++ ⟨n, d, s⟩ :: B)) : OkL (A ++ ⟨n, d, z⟩ :: B) :=
  ⟨ris_same (f := ⟨n, d, s⟩) (g := ⟨n, d, z⟩) rfl h.ris, by have := h.len; simpa using this, fun f hf => by
    rcases List.mem_append.1 hf with hf | hf
    · exact h.sz f (List.mem_append_left _ hf)
    · rcases List.mem_cons.1 hf with rfl | hf
      · exact h.sz ⟨n, d, s⟩ (List.mem_append_right _ (List.mem_cons_self ..))
      · exact h.sz f (List.mem_append_right _ (List.mem_cons_of_mem _ hf))⟩
theorem OkL.drop {A B : List Fl} {f : Fl} (h : OkL (A ++ f :: B)) : OkL (A ++ B) :=
  ⟨(ris_mid h.ris).2.2.1, by have := h.len; simp at this ⊢; omega, fun g hg => h.sz g (by
    rcases List.mem_append.1 hg with hg | hg
    · exact List.mem_append_left _ hg
    · exact List.mem_append_right _ (List.mem_cons_of_mem _ hg))⟩
theorem OkL.nsz {l : List Fl} (h : OkL l) (i : Nat) : (l.getD i default).n.size ≤ maxLen := by
  rw [List.getD_eq_getElem?_getD]
  cases hx : l[i]? with
  | none => exact Nat.zero_le _
  | some f => exact (h.sz f (List.mem_of_getElem? hx)).1
theorem Steps.ok {l l' : List Fl} {r : List (Int × ByteArray)} (h : Steps l r l') : OkL l → OkL l' := by
  induction h with
  | nil l => exact id
  | sync A B n d s r l _ ih => exact fun h => ih h.sync
  | drop A B n d s r l _ ih => exact fun h => ih h.drop
/-- The value is a slice that holds these acts. -/
def Acts (w : World) (v : Value) (l : List (Int × ByteArray)) : Prop :=
  ∃ a cap, v = .slice a l.length cap ∧ l.length ≤ maxLen ∧ (l.length = 0 ∨ ∃ b off, a = some ⟨b, off, none⟩ ∧ b < w.heap.size ∧ ∀ i, i < l.length → w.cell? ⟨b, off + i * 6, none⟩ = some (.int .i64 (l.getD i default).1) ∧ w.cell? ⟨b, off + i * 6 + 1, none⟩ = some (.int .i64 0) ∧ w.cell? ⟨b, off + i * 6 + 2, none⟩ = some (.string (l.getD i default).2) ∧ w.cell? ⟨b, off + i * 6 + 3, none⟩ = some (.string ⟨#[]⟩) ∧ w.cell? ⟨b, off + i * 6 + 4, none⟩ = some (.string ⟨#[]⟩) ∧ w.cell? ⟨b, off + i * 6 + 5, none⟩ = some (.slice none 0 0))
/-- One act, done: any that finds its file. -/
theorem act_step {room : Int} {t b : Nat} {l l' : List Fl} {k : Int} {n : ByteArray} {r : List (Int × ByteArray)} {w : World} (hS : Steps l ((k, n) :: r) l') (hT : Blk w t [.int .i64 room, .map (some b)]) (hM : FMap w b l) (ho : OkL l) (htb : ¬ t = b) :
    ∃ l2, Steps l2 r l' ∧ OkL l2 ∧ Calls Tryz.prog 45 #[.pointer (some ⟨t, 0, none⟩), actV k n] w fun e w' => e = .returned .nilIface ∧ FMap w' b l2 ∧ Touch (fun q => q = b) w w' := by
  cases hS with
  | sync A B n d s r l h =>
    have hz := ho.sz ⟨n, d, s⟩ (List.mem_append_right _ (List.mem_cons_self ..))
    exact ⟨_, h, ho.sync, act_sync room t b A B n d s w hT hM ho.ris ho.len hz.1 hz.2 htb⟩
  | drop A B n d s r l h =>
    have hz := ho.sz ⟨n, d, s⟩ (List.mem_append_right _ (List.mem_cons_self ..))
    exact ⟨_, h, ho.drop, act_drop room t b A B n d s w hT hM ho.ris ho.len hz.1 hz.2 htb⟩
set_option maxRecDepth 100000 in
set_option maxHeartbeats 4000000 in
theorem runActs_any (room : Int) (l l' : List Fl) (v av : Value) (acts : List (Int × ByteArray)) (w : World) (hL : Fls w v l) (ho : OkL l) (hAc : Acts w av acts) (hS : Steps l acts l') :
    Calls Tryz.prog 21 #[.agg #[.int .i64 room, v], av] w fun e w' => ∃ a c, e = .returned (.tuple #[.agg #[.int .i64 room, .slice a l'.length c], .int .i64 0]) ∧ OwnF w.heap.size w' (.slice a l'.length c) l' ∧ Below w.heap.size w w' := by
  obtain ⟨a0, cap, rfl, _⟩ := id hL
  obtain ⟨a, acap, rfl, hm, hc⟩ := hAc
  have B0 := hide (((Below.refl w.heap.size w).alloc (Nat.le_refl _) (.cells #[.int .i64 room, .slice a0 l.length cap] 28)).alloc (by simp) (.cells #[.int .i64 0, .slice none 0 0] 28))
  have X0 := (Blk.new w #[.int .i64 room, .slice a0 l.length cap] 28 w.heap.size rfl).alloc (.cells #[.int .i64 0, .slice none 0 0] 28)
  have D0 := hide (Blk.new (w.alloc (.cells #[.int .i64 room, .slice a0 l.length cap] 28)) #[.int .i64 0, .slice none 0 0] 28 (w.heap.size + 1) (by simp))
  obtain ⟨⟨c0, c1⟩, _⟩ := Blk.c2 X0
  clear X0
  have HTO := hide (fun wx hx => tableOf_any room l (.slice a0 l.length cap) wx hx ho.ris ho.len ho.nsz)
  have HL := hide (fun wx (hx : Below w.heap.size w wx) => hL.below hx)
  have HC := hide hc
  have HST := hide hS
  have HOK := hide ho
  unfold maxLen at hm
  clear hL hc hS ho
  go_enter Tryz.func21, Tryz.ntmps21
  go_upto_region 1 with fail
  generalize (w.alloc (.cells #[.int .i64 room, .slice a0 l.length cap] 28)).alloc (.cells #[.int .i64 0, .slice none 0 0] 28) = w0 at *
  go_wp2_with fail
  refine (unhide HTO _ (unhide HL _ (unhide B0))).mono ?_
  rintro e w1 ⟨t, b, rfl, hT1, hM1, ht1, hb1, htb, hbw⟩
  have hDl := (unhide D0).1
  have B1 := hide ((unhide B0).trans (hbw.mono (unhide B0).size))
  have D1 := hide ((unhide D0).below hbw)
  have T1 := hide hT1
  have M1 := hide hM1
  have hwb : w.heap.size + 2 ≤ b := by omega
  clear hT1 hM1 hbw HTO HL B0 D0 c0 c1
  go_wp2_with fail
  go_loopw [14] (fun i wr => ∃ (k : Nat) (lk : List Fl), k ≤ acts.length ∧ i = .int .i64 k ∧ FMap wr b lk ∧ OkL lk ∧ Steps lk (acts.drop k) l' ∧ Blk wr t [.int .i64 room, .map (some b)] ∧ Blk wr (w.heap.size + 1) [.int .i64 0, .slice none 0 0] ∧ Below w.heap.size w wr) (fun i _ => acts.length - (intOf i).toNat)
  case atStart => exact ⟨0, l, Nat.zero_le _, rfl, unhide M1, unhide HOK, unhide HST, unhide T1, unhide D1, unhide B1⟩
  case round =>
    obtain ⟨k, lk, hk, rfl, hM2, hO2, hS2, hT2, hD2, hB2⟩ := hrel
    by_cases hlt : k < acts.length
    · obtain ⟨bq, off, rfl, hbl, hsrc⟩ : ∃ b off, a = some ⟨b, off, none⟩ ∧ b < w.heap.size ∧ ∀ i, i < acts.length → w.cell? ⟨b, off + i * 6, none⟩ = some (.int .i64 (acts.getD i default).1) ∧ w.cell? ⟨b, off + i * 6 + 1, none⟩ = some (.int .i64 0) ∧ w.cell? ⟨b, off + i * 6 + 2, none⟩ = some (.string (acts.getD i default).2) ∧ w.cell? ⟨b, off + i * 6 + 3, none⟩ = some (.string ⟨#[]⟩) ∧ w.cell? ⟨b, off + i * 6 + 4, none⟩ = some (.string ⟨#[]⟩) ∧ w.cell? ⟨b, off + i * 6 + 5, none⟩ = some (.slice none 0 0) := by
        rcases unhide HC with h0 | h1
        · omega
        · exact h1
      obtain ⟨s0, s1, s2, s3, s4, s5⟩ := hsrc k hlt
      have c0 := (hB2.cell (p := ⟨bq, off + k * 6, none⟩) hbl).trans s0
      have c1 := (hB2.cell (p := ⟨bq, off + k * 6 + 1, none⟩) hbl).trans s1
      have c2 := (hB2.cell (p := ⟨bq, off + k * 6 + 2, none⟩) hbl).trans s2
      have c3 := (hB2.cell (p := ⟨bq, off + k * 6 + 3, none⟩) hbl).trans s3
      have c4 := (hB2.cell (p := ⟨bq, off + k * 6 + 4, none⟩) hbl).trans s4
      have c5 := (hB2.cell (p := ⟨bq, off + k * 6 + 5, none⟩) hbl).trans s5
      have hdr : acts.drop k = acts.getD k default :: acts.drop (k + 1) := by
        rw [List.getD_eq_getElem?_getD, List.getElem?_eq_getElem hlt]
        exact List.drop_eq_getElem_cons hlt
      rw [hdr] at hS2
      have hk0 : (0 : Int) ≤ (k : Int) := by omega
      have hk1 : (k : Int) < (acts.length : Int) := by omega
      clear hsrc s0 s1 s2 s3 s4 s5 hdr
      generalize acts.getD k default = x at *
      obtain ⟨kd, nm⟩ := x
      dsimp only at c0 c2
      have hAA := (Below.refl wr.heap.size wr).alloc (Nat.le_refl _) (.cells #[.int .i64 kd, .int .i64 0, .string nm, .string ⟨#[]⟩, .string ⟨#[]⟩, .slice none 0 0] 54)
      have B3 := hide (hB2.trans (hAA.mono hB2.size))
      have D3 := hide (hD2.below hAA)
      have T3 := hide (hT2.below hAA)
      have M3 := hide (hM2.kept hAA)
      have X3 := Blk.new wr #[.int .i64 kd, .int .i64 0, .string nm, .string ⟨#[]⟩, .string ⟨#[]⟩, .slice none 0 0] 54 wr.heap.size rfl
      obtain ⟨x0, x1, x2, x3, x4, x5⟩ := Blk.c6 X3
      obtain ⟨l2, hS3, hO3, hact⟩ := act_step hS2 (unhide T3) (unhide M3) hO2 htb
      have HAC := hide hact
      have HS3 := hide hS3
      have HO3 := hide hO3
      unfold actV at HAC
      clear hAA hB2 hD2 hT2 hM2 hS2 hO2 X3 hact hS3 hO3 M3
      go_upto_region 5 with fail
      clear c0 c1 c2 c3 c4 c5
      generalize wr.alloc (.cells #[.int .i64 kd, .int .i64 0, .string nm, .string ⟨#[]⟩, .string ⟨#[]⟩, .slice none 0 0] 54) = w3 at *
      go_wp2_with fail
      refine (unhide HAC).mono ?_
      rintro e w4 ⟨rfl, hM4, hT4⟩
      have R := hide (show FMap w4 b l2 ∧ Blk w4 t [.int .i64 room, .map (some b)] ∧ Blk w4 (w.heap.size + 1) [.int .i64 0, .slice none 0 0] ∧ Below w.heap.size w w4 from ⟨hM4, (unhide T3).kept hT4 htb, (unhide D3).kept hT4 (by omega), (unhide B3).trans (hT4.below (unhide B3).size (fun q hq e => by omega))⟩)
      clear HAC hM4 hT4 T3 D3 B3 x0 x1 x2 x3 x4 x5
      go_wp2_with fail
      refine (fileCode_nil _).mono ?_
      rintro e w9 ⟨rfl, hw9⟩
      subst w9
      go_wp2_with fail
      refine ⟨⟨k + 1, l2, by omega, by go_num, (unhide R).1, unhide HO3, unhide HS3, (unhide R).2⟩, ?_⟩
      simp [intOf]; omega
    · obtain rfl : k = acts.length := by omega
      rw [List.drop_length] at hS2
      obtain rfl : lk = l' := by cases hS2; rfl
      have HD := hide (disk_any room t b lk wr hT2 hM2 hO2.ris hO2.len hO2.nsz)
      have B3 := hide hB2
      have D3 := hide hD2
      clear hM2 hO2 hS2 hT2 hD2 hB2 HST
      go_wp2_with fail
      refine (unhide HD).mono ?_
      rintro e w5 ⟨da, dc, rfl, hO5, hb5⟩
      have hT := ((Touch.refl (fun x => x = w.heap.size + 1) w5).setCell ⟨w.heap.size + 1, 0, none⟩ (.int .i64 room) (fun _ => rfl)).setCell ⟨w.heap.size + 1, 1, none⟩ (.slice da lk.length dc) (fun _ => rfl)
      have D5 := (unhide D3).below hb5
      have B5 := (unhide B3).trans (hb5.mono (unhide B3).size)
      have HY := hide ((D5.set 0 (.int .i64 room) (by simp)).set 1 (.slice da lk.length dc) (by simp))
      have HK := hide (B5.trans (hT.below B5.size (fun x hx e => by omega)))
      have hwr := (unhide B3).size
      have hDw := (unhide D3).1
      have HO := hide (hO5.kept hT (fun k hk e => by have := (World.ownsRow.lt hO5 k hk).1; omega))
      obtain ⟨⟨x0, x1⟩, g0, g1⟩ := Blk.c2 D5
      clear HD hO5 hb5 hT D5 B5 B3 D3
      go_wp2_with fail
      obtain ⟨⟨z0, z1⟩, _⟩ := Blk.c2 (unhide HY)
      refine bodyPost_ret (v := .tuple #[.agg #[.int .i64 room, .slice da lk.length dc], .int .i64 0]) (by simp [results, Tryz.results21, go_sem, z0, z1]) rfl ?_
      exact ⟨da, dc, rfl, World.ownsRow.mono (unhide HO) hwr, unhide HK⟩
end Go.Proofs.YtfihhkhdigbmiaaGreatDoor
