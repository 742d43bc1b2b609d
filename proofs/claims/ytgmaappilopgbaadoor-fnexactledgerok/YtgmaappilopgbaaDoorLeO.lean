/- impl.LedgerOK. -/
import Derived.Test.YtgmaappilopgbaaDoorLeI
namespace Go.Proofs.YtgmaappilopgbaaDoor.Sha
open Go.ChangeShapes Go.WideShapes Go.ChangeAt Go.RowKit
set_option linter.unusedVariables false

set_option maxRecDepth 100000 in
set_option maxHeartbeats 1000000 in
theorem implLedgerOK_any (ls : List ByteArray) (k v : ByteArray) (a : Int) (ks : List Br) (ss : List Se) (lb loff lc : Nat) (ka : Option Addr) (kc : Nat) (sx : Addr) (sc : Nat) (w : World)
    (hS : SA w lb loff lc ls) (h : LedR w (.slice (some ⟨lb, loff, none⟩) ls.length lc) (.slice ka ks.length kc) (.slice (some sx) ss.length sc) ls ks ss) (t1 : ∀ i, (ls.getD i ByteArray.empty).size ≤ 1048576) (zk : k.size ≤ maxLen) (zv : v.size ≤ maxLen) (t3 : ∀ i, (ss.getD i default).vl.size ≤ 1048576) (ht : Tab w) :
    Calls Tryd.prog 18 #[.agg #[.slice (some ⟨lb, loff, none⟩) ls.length lc, .string k, .string v, .int .i64 a, .slice ka ks.length kc, .slice (some sx) ss.length sc]] w fun e w' => e = .returned (.bool (ledB ls (.mk k v a ks) ss)) ∧ Below w.heap.size w w' := by
  have B0 := hide ((Below.refl w.heap.size w).alloc (Nat.le_refl _) (.cells #[.slice (some ⟨lb, loff, none⟩) ls.length lc, .string k, .string v, .int .i64 a, .slice ka ks.length kc, .slice (some sx) ss.length sc] 43))
  have HB := hide (openBook_any ls k v a ks ss lb loff lc ka kc sx sc _ (hS.below (unhide B0)) (h.below (unhide B0)) t1 zk zv t3 (ht.below (unhide B0)))
  clear hS h t1 zk zv t3 ht
  go_enter Tryd.func18, Tryd.ntmps18
  go_wp2_with fail
  refine (unhide HB).mono ?_
  rintro e w1 ⟨pv, rfl, hb1, _⟩
  have K1 := hide ((unhide B0).trans (hb1.mono (unhide B0).size))
  clear hb1
  go_wp2_with fail
  go_ret
  first
    | exact ⟨rfl, unhide K1⟩
    | exact ⟨by simp, unhide K1⟩
end Go.Proofs.YtgmaappilopgbaaDoor.Sha
