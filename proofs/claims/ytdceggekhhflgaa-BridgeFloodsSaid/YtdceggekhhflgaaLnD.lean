/- package learn: Learn at every argument. -/
import Derived.Test.YtdceggekhhflgaaLnC
namespace Go.Proofs.Ytdceggekhhflgaa
open Go.RowKit
open Go.Shelf
attribute [local go_sem ↓] Go.wp_at_zero Go.wp_at_succ
set_option linter.unusedSimpArgs false
set_option linter.unusedVariables false
set_option maxRecDepth 100000
set_option linter.unusedSectionVars false
variable [Zone]

theorem learn_any (B t : Nat) (age last : Int) (l : List Ent) (vid : Int) (a : Nat → Nat) (port now : Int) (w : World) (h : Tab w B t age last l) (ha : ∀ i, a i < 256) (hB : Zone.up B ≤ w.heap.size) :
    Calls Try.prog 41 #[.pointer (some ⟨t, 0, none⟩), .int .i64 vid, .agg (c6 a), .int .i64 port, .int .i64 now] w fun e w' => e = .returned (errV (learnErr last vid a port now)) ∧
      (learnErr last vid a port now = 0 → Tab w' B t age now (learnM age l vid a port now)) ∧ (learnErr last vid a port now ≠ 0 → Tab w' B t age last l) ∧ Lx B LT w w' := by
  have err : ∀ e, learnErr last vid a port now = e → e ≠ 0 → Calls Try.prog 41 #[.pointer (some ⟨t, 0, none⟩), .int .i64 vid, .agg (c6 a), .int .i64 port, .int .i64 now] w (fun x w' => x = .returned (.iface 71 (.int .i64 e)) ∧ Below w.heap.size w w') → Calls Try.prog 41 #[.pointer (some ⟨t, 0, none⟩), .int .i64 vid, .agg (c6 a), .int .i64 port, .int .i64 now] w fun e w' => e = .returned (errV (learnErr last vid a port now)) ∧
      (learnErr last vid a port now = 0 → Tab w' B t age now (learnM age l vid a port now)) ∧ (learnErr last vid a port now ≠ 0 → Tab w' B t age last l) ∧ Lx B LT w w' := by
    intro e he h0 hc
    refine hc.mono ?_
    rintro x w' ⟨rfl, hb⟩
    exact ⟨by rw [he, errV, if_neg h0], fun q => absurd (he.symm.trans q) h0, fun _ => h.kept hb, Lx.of hb⟩
  by_cases hg : a 0 % 2 = 1
  · exact err 1 (by unfold learnErr; rw [if_pos (by omega)]) (by decide) (learn_err0 B t age last l vid a port now w h ha hg)
  by_cases hv1 : vid < 1
  · exact err 1 (by unfold learnErr; rw [if_pos (by omega)]) (by decide) (learn_err1 B t age last l vid a port now w h ha hg hv1)
  by_cases hv2 : 4094 < vid
  · exact err 1 (by unfold learnErr; rw [if_pos (by omega)]) (by decide) (learn_err2 B t age last l vid a port now w h ha hg hv1 hv2)
  by_cases hp1 : port < 0
  · exact err 1 (by unfold learnErr; rw [if_pos (by omega)]) (by decide) (learn_err3 B t age last l vid a port now w h ha hg hv1 hv2 hp1)
  by_cases hp2 : 8 ≤ port
  · exact err 1 (by unfold learnErr; rw [if_pos (by omega)]) (by decide) (learn_err4 B t age last l vid a port now w h ha hg hv1 hv2 hp1 hp2)
  by_cases hn1 : now < 0
  · exact err 2 (by unfold learnErr; rw [if_neg (by omega), if_pos (by omega)]) (by decide) (learn_err5 B t age last l vid a port now w h ha hg hv1 hv2 hp1 hp2 hn1)
  by_cases hn2 : 1099511627776 < now
  · exact err 2 (by unfold learnErr; rw [if_neg (by omega), if_pos (by omega)]) (by decide) (learn_err6 B t age last l vid a port now w h ha hg hv1 hv2 hp1 hp2 hn1 hn2)
  by_cases ho1 : now < last
  · exact err 10 (by unfold learnErr; rw [if_neg (by omega), if_neg (by omega), if_pos ho1]) (by decide) (learn_err7 B t age last l vid a port now w h ha hg hv1 hv2 hp1 hp2 hn1 hn2 ho1)
  have he : learnErr last vid a port now = 0 := by unfold learnErr; rw [if_neg (by omega), if_neg (by omega), if_neg ho1]
  have fin : Calls Try.prog 41 #[.pointer (some ⟨t, 0, none⟩), .int .i64 vid, .agg (c6 a), .int .i64 port, .int .i64 now] w (fun e w' => e = .returned .nilIface ∧ Tab w' B t age now (learnM age l vid a port now) ∧ Lx B LT w w') := by
    by_cases hm : (restM age l vid a now).length = 32
    · exact learn_okF B t age last l vid a port now w h ha hB hg hv1 hv2 hp1 hp2 hn1 hn2 ho1 hm
    · exact learn_okS B t age last l vid a port now w h ha hB hg hv1 hv2 hp1 hp2 hn1 hn2 ho1 hm
  refine fin.mono ?_
  rintro x w' ⟨rfl, h1, h2⟩
  exact ⟨by rw [he, errV, if_pos rfl], fun _ => h1, fun q => absurd he q, h2⟩

end Go.Proofs.Ytdceggekhhflgaa
