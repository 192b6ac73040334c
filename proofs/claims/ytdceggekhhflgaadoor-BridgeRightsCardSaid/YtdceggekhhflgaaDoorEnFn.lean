/- slices.IndexFunc, slices.DeleteFunc over entries, whatever the predicate. -/
import Derived.Test.YtdceggekhhflgaaDoorEn
import Derived.Shelf.Abstract
namespace Go.Proofs.YtdceggekhhflgaaDoor
open Go.RowKit
open Go.Shelf
attribute [local go_sem ↓] Go.wp_at_zero Go.wp_at_succ
set_option linter.unusedSimpArgs false
set_option linter.unusedVariables false
set_option maxRecDepth 100000

theorem Tryd.enT : EnT 124 67 := ⟨by kernel_rfl, Tryd.underlying67⟩

/-- A function value that answers p of any entry, where G is so. -/
def PredE (g : Nat) (lb : Array Value) (p : Ent → Bool) (G : World → Prop) : Prop :=
  ∀ e w, OkE e → G w → Calls Tryd.prog g (#[.agg (enC e)] ++ lb) w fun x w' => x = .returned (.bool (p e)) ∧ Below w.heap.size w w'



theorem st_whole' (C X : Array Value) (h : C.size = X.size) : (C.toList.take 0 ++ X.toList ++ C.toList.drop (0 + X.toList.length)).toArray = X := by
  have e : C.toList.drop (0 + X.toList.length) = [] := List.drop_of_length_le (by simp [h])
  rw [e]
  simp

theorem Tryd.enZero : (Tryd.prog.info? 124).map (·.zero) = some (some (.agg (enC zEnt))) := by kernel_rfl

theorem filter_none {p : Ent → Bool} {l : List Ent} (h : ∀ x ∈ l, p x = false) : l.filter (fun e => !p e) = l := List.filter_eq_self.2 fun x hx => by rw [h x hx]; rfl



theorem RowE.sub {w : World} {B g n c : Nat} {T : TypeId} {l m : List Ent} {C : Array Value} {w' : World} (h : RowE w B T (.slice (some ⟨g, 0, none⟩) n c) l) (hm : m.length ≤ l.length) (hC : ∃ C0, Blk w g T C0 ∧ C.size = C0.size) (hb : Blk w' g T C) (hr : C.toList.take (m.length * 9) = enR m) : RowE w' B T (.slice (some ⟨g, 0, none⟩) m.length c) m := by
  rcases h with ⟨h0, ⟨e, _⟩ | ⟨g', cap, cur, e, h1, h2, h3, h4, h5, h6⟩⟩
  · cases e
  · injection e with e1 e2 e3
    cases e1
    subst e3
    obtain ⟨C0, k1, k2⟩ := hC
    have hc : C0 = cur := by
      have e : some (Obj.cells C0 T (0, 0)) = some (Obj.cells cur T (0, 0)) := k1.symm.trans h2
      injection e with e
      injection e
    subst hc
    exact ⟨enR_len m, Or.inr ⟨_, _, C, rfl, h1, hb, by omega, h4, k2.trans h5, hr⟩⟩



end Go.Proofs.YtdceggekhhflgaaDoor
