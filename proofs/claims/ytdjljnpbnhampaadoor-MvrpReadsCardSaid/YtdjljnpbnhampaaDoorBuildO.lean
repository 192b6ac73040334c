/- strings.Builder: what a text written leaves as it was, of whatever kind. -/
import Derived.Test.YtdjljnpbnhampaaDoorBuildF
import Derived.Test.YtdjljnpbnhampaaDoorBy
import Derived.Test.YtdjljnpbnhampaaDoorRF
namespace Go.Proofs.YtdjljnpbnhampaaDoor
open Go.RowKit
attribute [local go_sem ↓] Go.wp_at_zero Go.wp_at_succ
set_option linter.unusedSimpArgs false
set_option linter.unusedVariables false
set_option maxRecDepth 100000

/-- Whatever is no Builder, and no bytes, is as it was. -/
def KeepO (w w' : World) : Prop := w.heap.size ≤ w'.heap.size ∧ ∀ (X : Nat) (o : Obj), w.heap[X]? = some o → (∀ C F, o ≠ .cells C 5 F) → (∀ C F, o ≠ .cells C 188 F) → w'.heap[X]? = some o

theorem KeepO.of {w w' : World} (h : Below w.heap.size w w') : KeepO w w' := ⟨h.size, fun X o ho _ _ => (h.block X (Array.getElem?_eq_some_iff.1 ho).1).trans ho⟩

theorem KeepO.trans {w w' w'' : World} (h : KeepO w w') (h' : KeepO w' w'') : KeepO w w'' := ⟨Nat.le_trans h.1 h'.1, fun X o ho h1 h2 => h'.2 X o (h.2 X o ho h1 h2) h1 h2⟩

theorem KeepO.blk {w w' : World} {X : Nat} {T : TypeId} {C : Array Value} (h : KeepO w w') (hB : Blk w X T C) (h1 : T ≠ 5) (h2 : T ≠ 188) : Blk w' X T C :=
  h.2 X _ hB (fun D F e => by cases e; exact h1 rfl) (fun D F e => by cases e; exact h2 rfl)

theorem KeepO.loop {w w' : World} {X : Nat} {r : Loop} (h : KeepO w w') (hl : w.heap[X]? = some (.loop r)) : w'.heap[X]? = some (.loop r) := h.2 X _ hl (fun D F e => by cases e) (fun D F e => by cases e)

theorem KeepO.mark {w w' : World} {X : Nat} {d : Option (List Deferred)} (h : KeepO w w') (hl : w.heap[X]? = some (.deferred d)) : w'.heap[X]? = some (.deferred d) := h.2 X _ hl (fun D F e => by cases e) (fun D F e => by cases e)

theorem KeepO.cell (w : World) (b j : Nat) (v : Value) {C : Array Value} {F : Nat × Nat} (h : w.heap[b]? = some (.cells C 188 F)) : KeepO w (w.setCell ⟨b, j, none⟩ v) :=
  ⟨(KeepsWalks.setCell w _ v).size, fun X o ho h1 h2 => by
    have hne : X ≠ b := by
      intro e
      subst e
      rw [ho] at h
      injection h with h
      exact h2 _ _ h
    exact (Below.heap_setCell w ⟨b, j, none⟩ v X hne).trans ho⟩

theorem KeepO.grow {w w' : World} {v : Value} {B n : Nat} {bs : List Value} (hown : w.ownsRowF B 5 1 v n bs) (hg : w.grownBy w' v.ownBlock) : KeepO w w' :=
  ⟨hg.size, fun X o ho h1 h2 => by
    refine (hg.block X (Array.getElem?_eq_some_iff.1 ho).1 ?_).trans ho
    intro e
    rcases hown.2 with ⟨hv, _⟩ | ⟨g, cap, cur, fz, hv, _, h3, _⟩
    · rw [hv] at e
      cases e
    · rw [hv] at e
      have e2 : X = g := by simpa [Value.ownBlock] using e
      subst e2
      rw [ho] at h3
      injection h3 with h3
      exact h1 _ _ h3⟩

theorem KeepO.grow0 {w w' : World} {v : Value} {B n : Nat} {bs : List Value} (hown : w.ownsRow B 5 1 v n bs) (hg : w.grownBy w' v.ownBlock) : KeepO w w' := KeepO.grow (World.ownsRowF_of hown) hg

theorem check_o (B b : Nat) (bs : List Value) (w : World) (h : Lib.IsBuilder 188 5 B b bs w) :
    Calls Tryd.prog 111 #[.pointer (some ⟨b, 0, none⟩)] w fun e w' => e = .returned (.tuple #[]) ∧ (Lib.BuilderAt 188 5 B b (.pointer (some ⟨b, 0, none⟩)) bs w' ∧ Below B w w') ∧ KeepO w w' := by
  rcases h with h | h
  · refine (build_fresh b w h.cell0 h.shape h.frozen0).mono ?_
    rintro e w' ⟨rfl, rfl⟩
    obtain ⟨_, v, hb, _⟩ := id h
    exact ⟨rfl, ⟨h.used _, (Below.refl B w).setCell (p := ⟨b, 0, none⟩) h.1 _⟩, KeepO.cell w b 0 _ hb⟩
  · refine (build_used b w h.cell0).mono ?_
    rintro e w' ⟨rfl, rfl⟩
    exact ⟨rfl, ⟨h, Below.refl B _⟩, KeepO.of (Below.refl _ _)⟩

set_option maxHeartbeats 1000000 in
/-- WriteString: the text's bytes come behind. -/
theorem write_o (B b : Nat) (bs : List Value) (s : ByteArray) (w : World) (h : Lib.IsBuilder 188 5 B b bs w) (hlen : bs.length + s.size ≤ 1000000) (hBw : B ≤ w.heap.size) :
    Calls Tryd.prog 92 #[.pointer (some ⟨b, 0, none⟩), .string s] w fun e w' => e = .returned (.tuple #[.int .i64 s.size, .nilIface]) ∧ (Lib.IsBuilder 188 5 B b (bs ++ Lib.strCells s) w' ∧ Below B w w') ∧ KeepO w w' := by
  obtain ⟨i0, hi, hz0, hz1, hz2⟩ := info_parts Tryd.byteInfo
  go_enter Tryd.func92, Tryd.ntmps92
  go_wp2_with fail
  refine (check_o B b bs _ h).mono ?_
  rintro e w1 ⟨rfl, ⟨h1, hb1⟩, K1⟩
  obtain ⟨hB, v, hbk, hown, hne⟩ := h1
  have c0 : w1.cell? ⟨b, 0, none⟩ = some (.pointer (some ⟨b, 0, none⟩)) := by rw [Lib.cell_of_heap hbk]; rfl
  have c1 : w1.cell? ⟨b, 1, none⟩ = some v := by rw [Lib.cell_of_heap hbk]; rfl
  have hlt : b < w1.heap.size := (Array.getElem?_eq_some_iff.1 hbk).1
  go_wp2_with (at_builtin; refine Lib.wpList_append_own_string _ rfl _ _ 157 9 rfl B 5 i0 Tryd.underlying157 Tryd.underlying9 hi hz0 hz1 hz2 _ _ _ rfl hown s rfl ?c3 ?c4 ?c5 ?_)
  case c3 => unfold maxLen; omega
  case c4 => omega
  case c5 => have := hb1.size; omega
  intro v' w2 hown' hgrow _
  have K2 : KeepO w1 w2 := KeepO.grow0 hown hgrow
  have hb2 : w2.heap[b]? = some (.cells #[.pointer (some ⟨b, 0, none⟩), v] 188 (0, 0)) := (hgrow.block b hlt (fun e => hne e.symm)).trans hbk
  have d0 : w2.cell? ⟨b, 0, none⟩ = some (.pointer (some ⟨b, 0, none⟩)) := by rw [Lib.cell_of_heap hb2]; rfl
  have d1 : w2.cell? ⟨b, 1, none⟩ = some v := by rw [Lib.cell_of_heap hb2]; rfl
  have f1 : w2.frozen? ⟨b, 1, none⟩ = false := Lib.frozen_of_heap hb2 1
  obtain ⟨ao, n', cap, rfl⟩ : ∃ ao n' cap, v' = .slice ao n' cap := by
    rcases hown'.2 with ⟨hv, _⟩ | ⟨g, cap, cur, hv, _⟩
    · exact ⟨_, _, _, hv⟩
    · exact ⟨_, _, _, hv⟩
  go_wp2
  go_ret2
  refine ⟨rfl, ⟨Or.inr (Lib.BuilderAt.put hB hb2 (bs' := bs ++ Lib.strCells s) (by simpa [Lib.strCells_length] using hown') (by decide)), ?_⟩, (K1.trans K2).trans (KeepO.cell w2 b 1 _ hb2)⟩
  exact (hb1.grown hgrow (by have := hb1.size; omega) (fun k hk => (hown.lt k hk).1)).setCell (p := ⟨b, 1, none⟩) hB _

theorem cells_appO (a b : List UInt8) : Lib.byteCells (a ++ b) = Lib.byteCells a ++ Lib.byteCells b := by simp [Lib.byteCells]

theorem cells_lenO (a : List UInt8) : (Lib.byteCells a).length = a.length := by simp [Lib.byteCells]

/-- A builder of these bytes; of its own from b on. -/
def BO (b : Nat) (y : List UInt8) (w : World) : Prop := Lib.IsBuilder 188 5 b b (Lib.byteCells y) w

theorem bo_new (w : World) : BO w.heap.size [] (w.alloc (.cells #[.pointer none, .slice none 0 0] 188)) := build_new w

theorem write_bo (b : Nat) (y z : List UInt8) (w : World) (h : BO b y w) (hlen : y.length + z.length ≤ 1000000) (hBw : b ≤ w.heap.size) :
    Calls Tryd.prog 92 #[.pointer (some ⟨b, 0, none⟩), .string ⟨z.toArray⟩] w fun e w' => e = .returned (.tuple #[.int .i64 z.length, .nilIface]) ∧ BO b (y ++ z) w' ∧ Below b w w' ∧ KeepO w w' := by
  refine (write_o b b (Lib.byteCells y) ⟨z.toArray⟩ w h (by rw [cells_lenO]; exact hlen) hBw).mono ?_
  rintro e w' ⟨rfl, ⟨h1, h2⟩, h3⟩
  refine ⟨rfl, ?_, h2, h3⟩
  unfold BO
  rw [cells_appO]
  exact h1

theorem bo_keepC {b : Nat} {y : List UInt8} {w w' : World} (h : BO b y w) (hk : KeepC w w') : BO b y w' := by
  have key : ∀ p, Lib.BuilderAt 188 5 b b p (Lib.byteCells y) w → Lib.BuilderAt 188 5 b b p (Lib.byteCells y) w' := fun p h => by
    obtain ⟨hB, v, hbk, hown, hne⟩ := h
    exact ⟨hB, v, hk.same _ _ _ _ hbk, hk.owns hown, hne⟩
  rcases h with h | h
  · exact Or.inl (key _ h)
  · exact Or.inr (key _ h)

theorem bo_lt {b : Nat} {y : List UInt8} {w : World} (h : BO b y w) : b < w.heap.size := by
  rcases h with h | h
  · exact h.lt
  · exact h.lt

/-- What has been written, as a text. -/
theorem string_bo {b : Nat} {y : List UInt8} {w : World} (h : BO b y w) (h0 : y ≠ []) :
    Calls Tryd.prog 94 #[.pointer (some ⟨b, 0, none⟩)] w fun e w' => e = .returned (.string ⟨y.toArray⟩) ∧ Below b w w' ∧ KeepO w w' := by
  obtain ⟨p, hB, v, hbk, hown, hne⟩ : ∃ p, Lib.BuilderAt 188 5 b b p (Lib.byteCells y) w := by
    rcases h with h | h
    · exact ⟨_, h⟩
    · exact ⟨_, h⟩
  have hl0 : y.length ≠ 0 := by simpa using h0
  rw [Lib.byteCells_length] at hown
  obtain ⟨g, cap, cur, rfl, hbg, hg, hnc, hcm, hcs, htake⟩ : ∃ g cap cur, v = .slice (some ⟨g, 0, none⟩) y.length cap ∧ b ≤ g ∧ w.heap[g]? = some (.cells cur 5 (0, 0)) ∧ y.length ≤ cap ∧ cap ≤ maxLen ∧ cur.size = cap * 1 ∧ cur.toList.take (y.length * 1) = Lib.byteCells y := by
    rcases hown.2 with ⟨_, hz⟩ | ⟨g, cap, cur, hv, r⟩
    · exact absurd hz hl0
    · exact ⟨g, cap, cur, hv, r⟩
  have c1 : w.drew.cell? ⟨b, 1, none⟩ = some (.slice (some ⟨g, 0, none⟩) y.length cap) := by
    have : w.drew.heap[b]? = some (.cells #[p, .slice (some ⟨g, 0, none⟩) y.length cap] 188 (0, 0)) := hbk
    rw [Lib.cell_of_heap this]; rfl
  have hSD : (Builtin.unsafeSliceData_ #[157] 219 #[.slice (some ⟨g, 0, none⟩) y.length cap]).run Tryd.prog w.drew = .ok (.pointer (some ⟨g, 0, none⟩)) w.drew :=
    Lib.run_unsafeSliceData_row _ _ _ _ _ _ (by omega)
  have hUS : (Builtin.unsafeString_ #[219, 3] 9 #[.pointer (some ⟨g, 0, none⟩), .int .i64 y.length]).run Tryd.prog w.drew = .ok (.string ⟨y.toArray⟩) (w.drew.freeze ⟨g, 0, none⟩ y.length) := by
    refine Lib.run_unsafeString_row w.drew 219 3 9 5 Tryd.underlying219 (by kernel_rfl) g cur.size (by have hg' : w.drew.heap[g]? = some (.cells cur 5 (0, 0)) := hg; simp [World.shape?, hg']) y h0 (by omega) (by unfold maxLen at hcm; omega) ?_
    intro j x hx
    have := hown.cells (g := g) rfl j (.int .u8 x.toNat) (by simp [Lib.byteCells, hx])
    exact this
  have hK : Hid (KeepO w (w.drew.freeze ⟨g, 0, none⟩ y.length)) := by
    refine ⟨(Lib.below_freeze (Below.drew (Below.refl g w)) (p := ⟨g, 0, none⟩) (Nat.le_refl _) _).size, fun X o ho h1 h2 => ?_⟩
    have hne : X ≠ g := by
      intro e
      subst e
      rw [ho] at hg
      injection hg with hg
      exact h1 _ _ hg
    have e : (w.drew.freeze ⟨g, 0, none⟩ y.length).heap[X]? = w.heap[X]? := by
      unfold World.freeze
      rw [if_neg hl0]
      show (w.heap.modify g _)[X]? = w.heap[X]?
      rw [Array.getElem?_modify, if_neg (fun q => hne q.symm)]
    exact e.trans ho
  have hBl : Hid (Below b w (w.drew.freeze ⟨g, 0, none⟩ y.length)) := Lib.below_freeze (Below.drew (Below.refl b w)) (p := ⟨g, 0, none⟩) hbg _
  clear h hown hcs htake hg hbk
  go_enter Tryd.func94, Tryd.ntmps94
  go_wp2
  go_region
  all_goals (go_wp2; go_ret; exact ⟨rfl, hBl.out, hK.out⟩)

end Go.Proofs.YtdjljnpbnhampaaDoor
