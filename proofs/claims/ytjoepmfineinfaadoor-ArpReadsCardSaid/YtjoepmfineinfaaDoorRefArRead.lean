/- The reference reads a message of chapter 6: every way. -/
import Derived.Test.YtjoepmfineinfaaDoorBlk
import Derived.Test.YtjoepmfineinfaaDoorLeadT
import Derived.Test.YtjoepmfineinfaaDoorRefArReadA
import Derived.Test.YtjoepmfineinfaaDoorRefArReadB
import Derived.Test.YtjoepmfineinfaaDoorRefArReadC
import Derived.Test.YtjoepmfineinfaaDoorRefArReadD
import Derived.Test.YtjoepmfineinfaaDoorRefArReadE
namespace Go.Proofs.YtjoepmfineinfaaDoor
open Go.RowKit
attribute [local go_sem ↓] Go.wp_at_zero Go.wp_at_succ
set_option linter.unusedSimpArgs false
set_option linter.unusedVariables false
set_option maxRecDepth 100000

theorem arC_congr (op : Int) {a b c d a' b' c' d' : Nat → Nat} (h1 : a = a') (h2 : b = b') (h3 : c = c') (h4 : d = d') : arC ⟨op, a, b, c, d⟩ = arC ⟨op, a', b', c', d'⟩ := by rw [h1, h2, h3, h4]

theorem refArRead_any (s : ByteArray) (w : World) (hs : s.size ≤ 300) :
    Calls Tryd.prog 8 #[.string s] w fun r w' => r = .returned (.tuple #[.agg (arC (arRes s.data.toList)), .agg (ftC (arE s.data.toList) (arP s.data.toList))]) ∧ Below w.heap.size w w' := by
  have hL : s.data.toList.length = s.size := by simp
  have hd0 : s.data.toList.drop 0 = s.data.toList := List.drop_zero
  have bad : ∀ (p : Nat) (e pl : Int), ar9 s.data.toList = (false, p, e, pl) → (arRes s.data.toList = zAr ∧ arE s.data.toList = e ∧ arP s.data.toList = pl) := fun p e pl h => by
    unfold arRes arE arP
    rw [h]
    exact ⟨rfl, rfl, rfl⟩
  have h := ar_ways s.data.toList
  rw [hL] at h
  rcases h with ⟨h1, h9⟩ | ⟨h1, ht, p, h9⟩ | ⟨h1, ht, h⟩
  · obtain ⟨e1, e2, e3⟩ := bad _ _ _ h9
    rw [e1, e2, e3]
    exact refArRead_want_bad s w hs h1
  · obtain ⟨e1, e2, e3⟩ := bad _ _ _ h9
    rw [e1, e2, e3]
    exact refArRead_want_form s w hs h1 ht
  rcases h with ⟨h2, h9⟩ | ⟨h2, hop, h⟩
  · obtain ⟨e1, e2, e3⟩ := bad _ _ _ h9
    rw [e1, e2, e3]
    exact refArRead_num_bad s w hs h1 h2 ht
  rcases h with ⟨ho, p, h9⟩ | ⟨ho, h⟩
  · obtain ⟨e1, e2, e3⟩ := bad _ _ _ h9
    rw [e1, e2, e3]
    rw [hop] at ho
    exact refArRead_op s w hs h2 ho ht
  have hx : ((beN ((s.data.toList.drop 6).take 2) : Nat) : Int) = 1 ∨ ((beN ((s.data.toList.drop 6).take 2) : Nat) : Int) = 2 := by rw [← hop]; omega
  rcases h with ⟨h3, h9⟩ | ⟨h3, q5, h⟩
  · obtain ⟨e1, e2, e3⟩ := bad _ _ _ h9
    rw [e1, e2, e3]
    rcases hx with hx | hx
    · exact refArRead_addr1_1 s w hs h2 h3 hx ht
    · exact refArRead_addr1_2 s w hs h2 h3 hx ht
  rcases h with ⟨h4, h9⟩ | ⟨h4, q6, h⟩
  · obtain ⟨e1, e2, e3⟩ := bad _ _ _ h9
    rw [e1, e2, e3]
    rcases hx with hx | hx
    · exact refArRead_eat1_1 s w hs h3 h4 hx ht
    · exact refArRead_eat1_2 s w hs h3 h4 hx ht
  rcases h with ⟨h5, h9⟩ | ⟨h5, q7, h⟩
  · obtain ⟨e1, e2, e3⟩ := bad _ _ _ h9
    rw [e1, e2, e3]
    rcases hx with hx | hx
    · exact refArRead_addr2_1 s w hs h4 h5 hx ht
    · exact refArRead_addr2_2 s w hs h4 h5 hx ht
  rcases h with ⟨h6, h9⟩ | ⟨h6, q8, h9⟩
  · obtain ⟨e1, e2, e3⟩ := bad _ _ _ h9
    rw [e1, e2, e3]
    rcases hx with hx | hx
    · exact refArRead_eat2_1 s w hs h5 h6 hx ht
    · exact refArRead_eat2_2 s w hs h5 h6 hx ht
  rcases zrR_ways s 28 (-1) h6 with ⟨hz, hr⟩ | ⟨m, hms, hpm, hz, hm, hr⟩
  · have e0 : ar9 s.data.toList = (true, s.data.toList.length, 0, -1) := h9.trans hr
    have e1 : arRes s.data.toList = arOf s.data.toList := by unfold arRes; rw [e0]; rfl
    have e2 : arE s.data.toList = 0 := by unfold arE; rw [e0]
    have e3 : arP s.data.toList = -1 := by unfold arP; rw [e0]
    rw [e1, e2, e3]
    have e4 : ∀ n : Int, ((arOp s.data.toList : Nat) : Int) = n → arC (arOf s.data.toList) = arC ⟨n, byX ((s.data.toList.drop 8).take 6), byX ((s.data.toList.drop 18).take 6), byX ((s.data.toList.drop 14).take 4), byX ((s.data.toList.drop 24).take 4)⟩ := fun n hn => by
      unfold arOf
      rw [hn, q5, q6, q7, q8]
    rcases hx with hx | hx
    · rw [e4 1 (by rw [hop]; exact hx)]
      exact refArRead_ok_1 s w hs h6 hx ht hz
    · rw [e4 2 (by rw [hop]; exact hx)]
      exact refArRead_ok_2 s w hs h6 hx ht hz
  · obtain ⟨e1, e2, e3⟩ := bad _ _ _ (h9.trans hr)
    rw [e1, e2, e3]
    rcases hx with hx | hx
    · exact refArRead_noughts_1 s w hs h6 hx ht hpm hms hz hm
    · exact refArRead_noughts_2 s w hs h6 hx ht hpm hms hz hm

end Go.Proofs.YtjoepmfineinfaaDoor
