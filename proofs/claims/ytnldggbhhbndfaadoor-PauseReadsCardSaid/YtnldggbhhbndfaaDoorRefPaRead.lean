/- The reference reads a message of chapter 7: every way. -/
import Derived.Test.YtnldggbhhbndfaaDoorBlk
import Derived.Test.YtnldggbhhbndfaaDoorLeadT
import Derived.Test.YtnldggbhhbndfaaDoorRefPaReadA
import Derived.Test.YtnldggbhhbndfaaDoorRefPaReadB
import Derived.Test.YtnldggbhhbndfaaDoorRefPaReadC
import Derived.Test.YtnldggbhhbndfaaDoorRefPaReadD
namespace Go.Proofs.YtnldggbhhbndfaaDoor
open Go.RowKit
attribute [local go_sem ↓] Go.wp_at_zero Go.wp_at_succ
set_option linter.unusedSimpArgs false
set_option linter.unusedVariables false
set_option maxRecDepth 100000

theorem refPaRead_any (s : ByteArray) (w : World) (hs : s.size ≤ 300) :
    Calls Tryd.prog 28 #[.string s] w fun r w' => r = .returned (.tuple #[.agg (paC (paRes s.data.toList)), .agg (ftC (paE s.data.toList) (paP s.data.toList))]) ∧ Below w.heap.size w w' := by
  have hL : s.data.toList.length = s.size := by simp
  have bad : ∀ (p : Nat) (e pl : Int), pa9 s.data.toList = (false, p, e, pl) → (paRes s.data.toList = zPa ∧ paE s.data.toList = e ∧ paP s.data.toList = pl) := fun p e pl h => by
    unfold paRes paE paP
    rw [h]
    exact ⟨rfl, rfl, rfl⟩
  have good : ∀ p : Nat, pa9 s.data.toList = (true, p, 0, -1) → (paRes s.data.toList = paOf s.data.toList ∧ paE s.data.toList = 0 ∧ paP s.data.toList = -1) := fun p h => by
    unfold paRes paE paP
    rw [h]
    exact ⟨rfl, rfl, rfl⟩
  have h := pa_ways s.data.toList
  rw [hL] at h
  rcases h with ⟨h1, h9⟩ | ⟨h1, hN, h⟩
  · obtain ⟨e1, e2, e3⟩ := bad _ _ _ h9
    rw [e1, e2, e3]
    exact refPaRead_num_bad s w hs h1
  rcases h with ⟨n1, n2, p, h9⟩ | ⟨hn, h4, h9⟩ | ⟨h4, hV, h⟩
  · obtain ⟨e1, e2, e3⟩ := bad _ _ _ h9
    rw [e1, e2, e3]
    exact refPaRead_other s w hs h1 (paN s.data.toList) (by rw [hN]) (by simp; omega) (by simp; omega)
  · obtain ⟨e1, e2, e3⟩ := bad _ _ _ h9
    rw [e1, e2, e3]
    rcases hn with hn | hn
    · exact refPaRead_all_bad s w hs h1 h4 (by rw [← hN, hn]; rfl)
    · exact refPaRead_class_bad s w hs h1 h4 (by rw [← hN, hn]; rfl)
  rcases h with ⟨hn, h9⟩ | ⟨hn, h⟩
  · rcases zrR_ways s 4 (-1) h4 with ⟨hz, hr⟩ | ⟨m, hms, hpm, hz, hm, hr⟩
    · obtain ⟨e1, e2, e3⟩ := good _ (h9.trans hr)
      rw [e1, e2, e3, show paOf s.data.toList = paAll (paV s.data.toList) from if_pos hn]
      exact refPaRead_all_ok s w hs h4 _ (by rw [hV]) (by rw [← hN, hn]; rfl) hz
    · obtain ⟨e1, e2, e3⟩ := bad _ _ _ (h9.trans hr)
      rw [e1, e2, e3]
      exact refPaRead_all_noughts s w hs h4 (paV s.data.toList) (by rw [hV]) (by rw [← hN, hn]; rfl) hpm hms hz hm
  have hN2 : ((beN ((s.data.toList.drop 0).take 2) : Nat) : Int) = 257 := by rw [← hN, hn]; rfl
  have hV2 : ((beN ((s.data.toList.drop 2).take 2) : Nat) : Int) = (paV s.data.toList : Int) := by rw [hV]
  rcases h with ⟨hb, p, h9⟩ | ⟨hb, h⟩
  · obtain ⟨e1, e2, e3⟩ := bad _ _ _ h9
    rw [e1, e2, e3]
    exact refPaRead_class_big s w hs h4 _ hV2 hN2 hb
  rcases h with ⟨h20, m, m8, m1, m2, h9⟩ | ⟨h20, hT, h9⟩
  · obtain ⟨e1, e2, e3⟩ := bad _ _ _ h9
    rw [e1, e2, e3]
    exact refPaRead_class_cut s w hs h4 _ hV2 hN2 hb m m8 m1 m2
  rcases zrR_ways s 20 (-1) h20 with ⟨hz, hr⟩ | ⟨m, hms, hpm, hz, hm, hr⟩
  · obtain ⟨e1, e2, e3⟩ := good _ (h9.trans hr)
    rw [e1, e2, e3, show paOf s.data.toList = paAll8 s.data.toList from if_neg (by rw [hn]; decide)]
    have e4 : paC (paAll8 s.data.toList) = paC ⟨true, (paV s.data.toList : Int), fun j => (beN ((s.data.toList.drop (4 + 2 * j)).take 2) : Int)⟩ := paC_congr true _ _ _ fun k hk => by rw [hT k hk]
    rw [e4]
    exact refPaRead_class_ok s w hs h20 _ hV2 hN2 hb hz
  · obtain ⟨e1, e2, e3⟩ := bad _ _ _ (h9.trans hr)
    rw [e1, e2, e3]
    exact refPaRead_class_noughts s w hs h20 _ hV2 hN2 hb hpm hms hz hm

end Go.Proofs.YtnldggbhhbndfaaDoor
