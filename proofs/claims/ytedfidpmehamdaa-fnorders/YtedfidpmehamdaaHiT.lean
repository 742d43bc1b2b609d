/- For FnOrders: laws.some (it calls itself): where no order of places, each once, is legal it answers false. -/
import Derived.Test.YtedfidpmehamdaaHiX
import Derived.Test.YtedfidpmehamdaaHiK
import Derived.Deep.LoopGhost
import Derived.Deep.DeepCutAuto
namespace Go.Proofs.Ytedfidpmehamdaa
open Go.ChangeShapes Go.WideShapes Go.ChangeAt Go.RowKit Go.Deep
set_option linter.unusedVariables false
set_option linter.unusedSimpArgs false

/-- An append behind a guard that says yes. -/
theorem wpList_append_rowG {P : Program} (w : World) {ops : Array Oper} {rest : List Oper} {o : Oper} {a : Act} {Q : Exit → Act → World → Prop} (hw : Region.wanted o (yielded ops a.tmps) = true) (s x : Operand) (t : TypeId)
    (ho : o.op = .call { callee := .builtin .append, args := #[s, x], argTypes := #[t, t] })
    (base : Nat) (e : TypeId) (i : TypeInfo) (z : Value) (size bytes : Nat) (ht : P.underlying t = some (.slice e)) (hi : P.info? e = some i) (hz : i.zero = some z) (hsize : i.size = size) (hby : i.bytes = bytes) (hzs : z.cells.size = size) (hsz : 0 < size)
    (v : Value) (n : Nat) (xs : List Value) (hs : a.eval s = v) (hown : w.ownsRow base e size v n xs) (xv : Value) (m : Nat) (news : List Value) (hx : a.eval x = xv) (hR : Rw w xv m news) (hl : news.length = m * size) (h1 : ∀ u ∈ news, u.oneCell' = true) (h63 : n + m ≤ maxLen) (hb : (n + m) * bytes ≤ 140737488355328) (hbase : base ≤ w.heap.size)
    (h : ∀ a' c' w', w'.ownsRow base e size (.slice a' (n + m) c') (n + m) (xs ++ news) → w.grownBy w' v.ownBlock → ((Value.slice a' (n + m) c').ownBlock = v.ownBlock ∨ (Value.slice a' (n + m) c').ownBlock = some w.heap.size) → wpList P ops Q rest (a.put o.dst (.slice a' (n + m) c')) w') :
    wpList P ops Q (o :: rest) a w := by
  refine wpList_step fun K hK => ?_
  rw [if_pos hw]
  obtain ⟨a', c', w', hr, h2, h3, h4⟩ := run_append_row (P := P) w base t o.type e i z size bytes ht hi hz hsize hby hzs hsz v n xs hown xv m news hR hl h1 h63 hb hbase
  unfold Oper.wp execOp
  simp only [ho, resolve, invoke, builtin, Sem.run_bind, Sem.run_pure, Result.andThen_ok, List.map_toArray, List.map_cons, List.map_nil, hs, hx, hr]
  exact hK _ _ (h a' c' w' h2 h3 h4)
def hasTo (o : List Int) (x : Int) (k : Nat) : Bool := decide (∃ i, i < k ∧ o.getD i 0 = x)
theorem hasTo_succ (o : List Int) (x : Int) (k : Nat) : hasTo o x (k + 1) = (hasTo o x k || (o.getD k 0 == x)) := by
  rw [Bool.eq_iff_iff]
  simp only [hasTo, Bool.or_eq_true, decide_eq_true_eq, beq_iff_eq]
  constructor
  · rintro ⟨i, hi, e⟩
    by_cases h : i = k
    · subst h; exact .inr e
    · exact .inl ⟨i, by omega, e⟩
  · rintro (⟨i, hi, e⟩ | e)
    · exact ⟨i, by omega, e⟩
    · exact ⟨k, by omega, e⟩
theorem hasTo_not {o : List Int} {x : Int} (h : hasTo o x o.length = false) : ¬ x ∈ o := fun hm => by
  obtain ⟨i, hi, e⟩ := List.getElem_of_mem hm
  refine (of_decide_eq_false h) ⟨i, hi, ?_⟩
  rw [List.getD_eq_getElem?_getD, List.getElem?_eq_getElem hi]; exact e
/-- In so many steps it answers false. -/
def SoP (la : Option Addr) (lc : Nat) (l : List Op) (n : Nat) : Prop := ∀ (o : List Int) (ov : Value) (w : World),
    Ops w (.slice la l.length lc) l → Ints w ov o → Plc l.length o → l.length < n + o.length →
    Calls Try.prog 11 #[.slice la l.length lc, ov] w fun e w' => e = .returned (.bool false) ∧ Below w.heap.size w w'
set_option maxRecDepth 100000 in
set_option maxHeartbeats 4000000 in
theorem some_step (la : Option Addr) (lc : Nat) (l : List Op) (hok : opsB l = true) (hno : ∀ od, Plc l.length od → legI l [] ⟨#[]⟩ od = false) (n : Nat) (hIH : SoP la lc l n) (o : List Int) (ov : Value) (w : World)
    (hl : Ops w (.slice la l.length lc) l) (hov : Ints w ov o) (hp : Plc l.length o) (hn : l.length < n + 1 + o.length) :
    Calls Try.prog 11 #[.slice la l.length lc, ov] w fun e w' => e = .returned (.bool false) ∧ Below w.heap.size w w' := by
  have IH := hide hIH
  obtain ⟨i0, hi, hz0, hz1, hz2⟩ := info_parts info3
  have hl7 := (opsB_at hok).1
  have ho7 : o.length ≤ 7 := by have := hp.len; omega
  have HOL := hide (implOrderLegal_any _ ov l o w hl (by omega) hov (by omega))
  rw [ol_plc l hok o hp, hno o hp] at HOL
  dsimp only at HOL
  have HOP := hide (fun (wx : World) (hb : Below w.heap.size w wx) => hl.below hb)
  have HOV := hide (fun (wx : World) (hb : Below w.heap.size w wx) => hov.below hb)
  obtain ⟨oa, oc, rfl, _, hc⟩ := hov
  have HD := hide hc
  have HP := hide hp
  have HN := hide hn
  clear hIH hl hc hp hn hno hok
  go_enter Try.func11, Try.ntmps11
  go_wp2_with fail
  refine (unhide HOL).mono ?_
  rintro e w1 ⟨rfl, hb1⟩
  have B1 := hide hb1
  clear hb1 HOL
  go_wp2_with fail
  go_loopw [7] (fun iv wr => ∃ i : Nat, i ≤ l.length ∧ iv = .int .i64 i ∧ Below w.heap.size w wr) (fun iv _ => l.length - (intOf iv).toNat)
  case atStart => exact ⟨0, Nat.zero_le _, rfl, unhide B1⟩
  case round =>
    obtain ⟨i, hil, rfl, hb⟩ := hrel
    by_cases hlt : i < l.length
    · have p0 : (0 : Int) ≤ (i : Int) := by omega
      have p1 : (i : Int) < (l.length : Int) := by omega
      have HB := hide hb
      clear hb
      go_wp2_with fail
      go_loop [8, 9] (fun d kv => ∃ k : Nat, k ≤ o.length ∧ kv = .int .i64 k ∧ d = .bool (hasTo o (i : Int) k)) (fun _ kv => o.length - (intOf kv).toNat)
      case atStart => exact ⟨0, Nat.zero_le _, rfl, by simp [hasTo]⟩
      case round =>
        obtain ⟨k, hk, rfl, rfl⟩ := hrel
        by_cases hkl : k < o.length
        · obtain ⟨b, off, rfl, hbl, hsrc⟩ : ∃ b off, oa = some ⟨b, off, none⟩ ∧ b < w.heap.size ∧ ∀ i, i < o.length → w.cell? ⟨b, off + i, none⟩ = some (.int .i64 (o.getD i 0)) := by
            rcases unhide HD with h0 | h1
            · omega
            · exact h1
          have c0 := ((unhide HB).cell (p := ⟨b, off + k, none⟩) hbl).trans (hsrc k hkl)
          have z0 : (0 : Int) ≤ (k : Int) := by omega
          have z1 : (k : Int) < (o.length : Int) := by omega
          have HSU := hide (hasTo_succ o (i : Int) k)
          clear hsrc
          generalize o.getD k 0 = x at *
          generalize hasTo o (i : Int) k = d at *
          generalize hxe : (x == (i : Int)) = xe at *
          have hxe2 : (x == (i : Int)) = xe := hxe
          cases d with
          | true =>
            clear hxe hxe2
            go_wp2_with fail
            refine ⟨⟨k + 1, by omega, by go_num, by rw [unhide HSU]; rfl⟩, ?_⟩
            simp [intOf]; omega
          | false =>
            clear hxe
            go_wp2_with fail
            refine ⟨⟨k + 1, by omega, by go_num, by rw [unhide HSU]; rfl⟩, ?_⟩
            simp [intOf]; omega
        · obtain rfl : k = o.length := by omega
          have HNO := hide (@hasTo_not o (i : Int))
          generalize hasTo o (i : Int) o.length = d at *
          cases d with
          | true =>
            go_wp2_with fail
            refine ⟨⟨i + 1, by omega, by go_num, unhide HB⟩, ?_⟩
            simp [intOf]; omega
          | false =>
            have HPL := hide ((unhide HP).snoc hlt (unhide HNO rfl))
            have HR := hide ((unhide HOV (wr.alloc (.cells #[] 3)) ((unhide HB).alloc (unhide HB).size _)).rw)
            have O0 := hide (own_noneJ wr wr.heap.size wr.heap.size rfl (Nat.le_refl _))
            have B0 := hide ((Below.refl wr.heap.size wr).alloc (Nat.le_refl _) (.cells #[] 3))
            have hqs := (unhide HB).size
            go_wp2_with (first
              | (at_builtin; refine wpList_append_rowG _ (by rfl) _ _ _ rfl wr.heap.size 3 i0 _ 1 8 Try.underlying25 hi hz0 hz1 hz2 rfl (by omega) _ o.length (o.map (Value.int .i64)) rfl (unhide O5) _ 1 [.int .i64 (i : Int)] rfl (unhide HRW5) rfl (by simp [Value.oneCell']) (by unfold maxLen; omega) (by omega) (unhide HS5) ?_; intro a7 c7 w7 hown7 hgrow7 hat7; have R7 := hide (And.intro hown7 ((unhide B5).grown hgrow7 (unhide HS5) (fun r hr => ((unhide O5).lt r hr).1))); clear hown7 hgrow7 hat7)
              | (at_builtin; refine wpList_append_rowG _ (by rfl) _ _ _ rfl wr.heap.size 3 i0 _ 1 8 Try.underlying25 hi hz0 hz1 hz2 rfl (by omega) _ 0 [] rfl (unhide O0) _ o.length (o.map (Value.int .i64)) rfl (unhide HR) (by simp) (by intro u hu; simp only [List.mem_map] at hu; obtain ⟨s, _, rfl⟩ := hu; rfl) (by unfold maxLen; omega) (by omega) (by simp) ?_; intro a1 c1 w1 hown1 hgrow1 hat1; rw [Nat.zero_add, List.nil_append] at hown1; have BQ1 := (unhide B0).grown hgrow1 (by simp) (fun r hr => ((unhide O0).lt r hr).1); have O5 := hide (own_kept (T := fun _ => False) hown1 (Touch.ofBelow ((Below.refl w1.heap.size w1).alloc (Nat.le_refl _) (.cells #[.int .i64 (i : Int)] 3))) (fun _ _ h => h)); have HRW5 := hide (one_rwI w1 (i : Int) w1.heap.size rfl); have B5 := hide (BQ1.alloc BQ1.size (.cells #[.int .i64 (i : Int)] 3)); have HS5 := hide (show wr.heap.size ≤ (w1.alloc (.cells #[.int .i64 (i : Int)] 3)).heap.size from (BQ1.alloc BQ1.size (.cells #[.int .i64 (i : Int)] 3)).size); clear hown1 hgrow1 hat1 BQ1))
            have hO7 := ownI_push (unhide R7).1
            have HB7 := hide ((unhide HB).trans ((unhide R7).2.mono hqs))
            have HIN7 := hide hO7.ints
            clear hO7 R7 O5 HRW5 B5 HS5 O0 B0 HR
            refine (unhide IH (o ++ [(i : Int)]) _ w7 (unhide HOP w7 (unhide HB7)) (unhide HIN7) (unhide HPL) (by have := unhide HN; rw [List.length_append]; simp; omega)).mono ?_
            rintro e w8 ⟨rfl, hb8⟩
            have HB8 := hide ((unhide HB7).trans (hb8.mono (unhide HB7).size))
            clear hb8
            go_wp2_with fail
            refine ⟨⟨i + 1, by omega, by go_num, unhide HB8⟩, ?_⟩
            simp [intOf]; omega
    · obtain rfl : i = l.length := by omega
      have HB := hide hb
      clear hb
      go_wp2_with fail
      go_ret
      exact ⟨rfl, unhide HB⟩
theorem some_all (la : Option Addr) (lc : Nat) (l : List Op) (hok : opsB l = true) (hno : ∀ od, Plc l.length od → legI l [] ⟨#[]⟩ od = false) : ∀ n, SoP la lc l n
  | 0 => fun o ov w _ _ hp hn => by have := hp.len; omega
  | n + 1 => fun o ov w h1 h2 h3 h4 => some_step la lc l hok hno n (some_all la lc l hok hno n) o ov w h1 h2 h3 h4
end Go.Proofs.Ytedfidpmehamdaa
