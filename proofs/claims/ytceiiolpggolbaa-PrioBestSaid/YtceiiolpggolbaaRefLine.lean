/- The reference's numbers of a vector. -/
import Derived.Test.YtceiiolpggolbaaRefFirst
namespace Go.Proofs.Ytceiiolpggolbaa
open Go.RowKit
attribute [local go_sem ↓] Go.wp_at_zero Go.wp_at_succ
set_option linter.unusedSimpArgs false
set_option linter.unusedVariables false
set_option maxRecDepth 100000

theorem owns_below {w w' : World} {base sz n g cap : Nat} {T : TypeId} {xs : List Value} (h : w.ownsRow base T sz (.slice (some ⟨g, 0, none⟩) n cap) n xs) (hg : g < w.heap.size) (hb : Below w.heap.size w w') : w'.ownsRow base T sz (.slice (some ⟨g, 0, none⟩) n cap) n xs := by
  refine ⟨h.1, ?_⟩
  rcases h.2 with hn | ⟨g', cap', cur, e, hb', hgg, rest⟩
  · exact Or.inl hn
  · refine Or.inr ⟨g', cap', cur, e, hb', ?_, rest⟩
    have he : g = g' := by
      simp only [Value.slice.injEq, Option.some.injEq, Addr.mk.injEq] at e
      exact e.1.1
    subst he
    rw [hb.block g hg]
    exact hgg
theorem ivL_one (l : List Int) : ∀ u ∈ ivL l, u.oneCell' = true := by
  intro u hu
  unfold ivL at hu
  obtain ⟨x, _, rfl⟩ := List.mem_map.1 hu
  rfl
theorem news_own {w : World} {g : Nat} {l : List Int} (h : IntsAt w g l) : ∀ (j : Nat) u, (ivL l)[j]? = some u → w.cell? ((⟨g, 0, none⟩ : Addr).add j) = some u := by
  intro j u hu
  unfold ivL at hu
  rw [List.getElem?_map] at hu
  cases hj : l[j]? with
  | none => rw [hj] at hu; cases hu
  | some x =>
    rw [hj] at hu
    simp only [Option.map_some, Option.some.injEq] at hu
    subst hu
    rw [Addr.add_lit, Nat.zero_add]
    exact h j x hj

set_option maxHeartbeats 6400000 in
theorem line_any (base : Nat) (v : Ve) (hv : byV v) (w : World) (hbs : base ≤ w.heap.size) :
    Calls Try.prog 17 #[.agg (veC v)] w fun e w' => ∃ g cap, e = .returned (.slice (some ⟨g, 0, none⟩) 21 cap) ∧ w'.ownsRow base 3 1 (.slice (some ⟨g, 0, none⟩) 21 cap) 21 (ivL (lineV v)) ∧ g < w'.heap.size ∧ Below w.heap.size w w' := by
  obtain ⟨i0, hi, hz0, hz1, hz2⟩ := info_parts Try.intParts
  have HA := Blk.new w 29 (veC v)
  have B1 : Below w.heap.size w (w.alloc (.cells (veC v) 29)) := (Below.refl _ _).alloc (Nat.le_refl _) _
  have HN1 := Lib.hid (fun W (hb : w.heap.size + 1 ≤ W.heap.size) => numbers_any (w.heap.size + 1) v.root hv.1 W hb)
  have HN2 := Lib.hid (fun W (hb : w.heap.size + 1 ≤ W.heap.size) => numbers_any (w.heap.size + 1) v.sender hv.2 W hb)
  have HL : Hid (lineV v = numsB v.root ++ ([v.cost] ++ (numsB v.sender ++ [v.pp, v.pn, v.ap, v.an]))) := rfl
  have hn1 : (ivL (numsB v.root)).length = 8 := rfl
  have hn2 : (ivL (numsB v.sender)).length = 8 := rfl
  generalize numsB v.root = l1 at *
  generalize numsB v.sender = l2 at *
  unfold brC at HN1
  go_enter Try.func17, Try.ntmps17
  go_upto_region 1 with (fail)
  generalize (w.alloc (.cells (veC v) 29)) = w1 at *
  go_region_held3 (fun w' => w'.cell? ⟨w.heap.size, 0, none⟩ = some (.int .i64 v.root.p) ∧ w'.cell? ⟨w.heap.size, 1, none⟩ = some (.int .i64 v.root.e) ∧ w'.cell? ⟨w.heap.size, 2, none⟩ = some (.int .u8 (v.root.a 0)) ∧ w'.cell? ⟨w.heap.size, 3, none⟩ = some (.int .u8 (v.root.a 1)) ∧ w'.cell? ⟨w.heap.size, 4, none⟩ = some (.int .u8 (v.root.a 2)) ∧ w'.cell? ⟨w.heap.size, 5, none⟩ = some (.int .u8 (v.root.a 3)) ∧ w'.cell? ⟨w.heap.size, 6, none⟩ = some (.int .u8 (v.root.a 4)) ∧ w'.cell? ⟨w.heap.size, 7, none⟩ = some (.int .u8 (v.root.a 5)) ∧ w'.cell? ⟨w.heap.size, 8, none⟩ = some (.int .i64 v.cost) ∧ w'.cell? ⟨w.heap.size, 9, none⟩ = some (.int .i64 v.sender.p) ∧ w'.cell? ⟨w.heap.size, 10, none⟩ = some (.int .i64 v.sender.e) ∧ w'.cell? ⟨w.heap.size, 11, none⟩ = some (.int .u8 (v.sender.a 0)) ∧ w'.cell? ⟨w.heap.size, 12, none⟩ = some (.int .u8 (v.sender.a 1)) ∧ w'.cell? ⟨w.heap.size, 13, none⟩ = some (.int .u8 (v.sender.a 2)) ∧ w'.cell? ⟨w.heap.size, 14, none⟩ = some (.int .u8 (v.sender.a 3)) ∧ w'.cell? ⟨w.heap.size, 15, none⟩ = some (.int .u8 (v.sender.a 4)) ∧ w'.cell? ⟨w.heap.size, 16, none⟩ = some (.int .u8 (v.sender.a 5)) ∧ w'.cell? ⟨w.heap.size, 17, none⟩ = some (.int .i64 v.pp) ∧ w'.cell? ⟨w.heap.size, 18, none⟩ = some (.int .i64 v.pn) ∧ w'.cell? ⟨w.heap.size, 19, none⟩ = some (.int .i64 v.ap) ∧ w'.cell? ⟨w.heap.size, 20, none⟩ = some (.int .i64 v.an))
    (first
      | exact ⟨(HA3).cv 0 _ rfl, (HA3).cv 1 _ rfl, (HA3).cv 2 _ rfl, (HA3).cv 3 _ rfl, (HA3).cv 4 _ rfl, (HA3).cv 5 _ rfl, (HA3).cv 6 _ rfl, (HA3).cv 7 _ rfl, (HA3).cv 8 _ rfl, (HA3).cv 9 _ rfl, (HA3).cv 10 _ rfl, (HA3).cv 11 _ rfl, (HA3).cv 12 _ rfl, (HA3).cv 13 _ rfl, (HA3).cv 14 _ rfl, (HA3).cv 15 _ rfl, (HA3).cv 16 _ rfl, (HA3).cv 17 _ rfl, (HA3).cv 18 _ rfl, (HA3).cv 19 _ rfl, (HA3).cv 20 _ rfl⟩
      | exact ⟨(HA2.alloc _).cv 0 _ rfl, (HA2.alloc _).cv 1 _ rfl, (HA2.alloc _).cv 2 _ rfl, (HA2.alloc _).cv 3 _ rfl, (HA2.alloc _).cv 4 _ rfl, (HA2.alloc _).cv 5 _ rfl, (HA2.alloc _).cv 6 _ rfl, (HA2.alloc _).cv 7 _ rfl, (HA2.alloc _).cv 8 _ rfl, (HA2.alloc _).cv 9 _ rfl, (HA2.alloc _).cv 10 _ rfl, (HA2.alloc _).cv 11 _ rfl, (HA2.alloc _).cv 12 _ rfl, (HA2.alloc _).cv 13 _ rfl, (HA2.alloc _).cv 14 _ rfl, (HA2.alloc _).cv 15 _ rfl, (HA2.alloc _).cv 16 _ rfl, (HA2.alloc _).cv 17 _ rfl, (HA2.alloc _).cv 18 _ rfl, (HA2.alloc _).cv 19 _ rfl, (HA2.alloc _).cv 20 _ rfl⟩
      | exact ⟨(HA2).cv 0 _ rfl, (HA2).cv 1 _ rfl, (HA2).cv 2 _ rfl, (HA2).cv 3 _ rfl, (HA2).cv 4 _ rfl, (HA2).cv 5 _ rfl, (HA2).cv 6 _ rfl, (HA2).cv 7 _ rfl, (HA2).cv 8 _ rfl, (HA2).cv 9 _ rfl, (HA2).cv 10 _ rfl, (HA2).cv 11 _ rfl, (HA2).cv 12 _ rfl, (HA2).cv 13 _ rfl, (HA2).cv 14 _ rfl, (HA2).cv 15 _ rfl, (HA2).cv 16 _ rfl, (HA2).cv 17 _ rfl, (HA2).cv 18 _ rfl, (HA2).cv 19 _ rfl, (HA2).cv 20 _ rfl⟩
      | exact ⟨(HA).cv 0 _ rfl, (HA).cv 1 _ rfl, (HA).cv 2 _ rfl, (HA).cv 3 _ rfl, (HA).cv 4 _ rfl, (HA).cv 5 _ rfl, (HA).cv 6 _ rfl, (HA).cv 7 _ rfl, (HA).cv 8 _ rfl, (HA).cv 9 _ rfl, (HA).cv 10 _ rfl, (HA).cv 11 _ rfl, (HA).cv 12 _ rfl, (HA).cv 13 _ rfl, (HA).cv 14 _ rfl, (HA).cv 15 _ rfl, (HA).cv 16 _ rfl, (HA).cv 17 _ rfl, (HA).cv 18 _ rfl, (HA).cv 19 _ rfl, (HA).cv 20 _ rfl⟩
      | exact ⟨(HA.drew).cv 0 _ rfl, (HA.drew).cv 1 _ rfl, (HA.drew).cv 2 _ rfl, (HA.drew).cv 3 _ rfl, (HA.drew).cv 4 _ rfl, (HA.drew).cv 5 _ rfl, (HA.drew).cv 6 _ rfl, (HA.drew).cv 7 _ rfl, (HA.drew).cv 8 _ rfl, (HA.drew).cv 9 _ rfl, (HA.drew).cv 10 _ rfl, (HA.drew).cv 11 _ rfl, (HA.drew).cv 12 _ rfl, (HA.drew).cv 13 _ rfl, (HA.drew).cv 14 _ rfl, (HA.drew).cv 15 _ rfl, (HA.drew).cv 16 _ rfl, (HA.drew).cv 17 _ rfl, (HA.drew).cv 18 _ rfl, (HA.drew).cv 19 _ rfl, (HA.drew).cv 20 _ rfl⟩
      | exact ⟨((HA.alloc _).drew).cv 0 _ rfl, ((HA.alloc _).drew).cv 1 _ rfl, ((HA.alloc _).drew).cv 2 _ rfl, ((HA.alloc _).drew).cv 3 _ rfl, ((HA.alloc _).drew).cv 4 _ rfl, ((HA.alloc _).drew).cv 5 _ rfl, ((HA.alloc _).drew).cv 6 _ rfl, ((HA.alloc _).drew).cv 7 _ rfl, ((HA.alloc _).drew).cv 8 _ rfl, ((HA.alloc _).drew).cv 9 _ rfl, ((HA.alloc _).drew).cv 10 _ rfl, ((HA.alloc _).drew).cv 11 _ rfl, ((HA.alloc _).drew).cv 12 _ rfl, ((HA.alloc _).drew).cv 13 _ rfl, ((HA.alloc _).drew).cv 14 _ rfl, ((HA.alloc _).drew).cv 15 _ rfl, ((HA.alloc _).drew).cv 16 _ rfl, ((HA.alloc _).drew).cv 17 _ rfl, ((HA.alloc _).drew).cv 18 _ rfl, ((HA.alloc _).drew).cv 19 _ rfl, ((HA.alloc _).drew).cv 20 _ rfl⟩
      )
    (first
      | (go_at_call 13; (with_reducible refine (HN1.out _ (by have := HA.lt; (try simp); omega)).mono ?_); rintro e w2 ⟨g, cap, rfl, hown2, hg2, k2⟩; have HA2 := HA.drew.kept k2; have hs2 : w.heap.size + 1 ≤ w2.heap.size := HA2.lt)
      | (go_at_call 13; (with_reducible refine (HN1.out _ (by have := HA.lt; (try simp); omega)).mono ?_); rintro e w2 ⟨g, cap, rfl, hown2, hg2, k2⟩; have HA2 := (HA.alloc _).drew.kept k2; have hs2 : w.heap.size + 1 ≤ w2.heap.size := HA2.lt; have HC2 := (Blk.new w1 3 #[.int .i64 v.cost]).drew.kept k2)
      | (refine step_append_lies _ (by rfl) _ _ _ (by rfl) (w.heap.size + 1) 3 i0 (.int .i64 0) 1 8 Try.underlying38 hi hz0 hz1 hz2 rfl (by omega) (.slice (some ⟨g, 0, none⟩) 8 cap) 8 _ (by rfl) (hown2.alloc _) ⟨w2.heap.size, 0, none⟩ 1 1 ([.int .i64 v.cost]) (by rfl) (by rfl) (World.news_of_block (cs := #[.int .i64 v.cost]) (t := 3) (fr := (0, 0)) (heap_alloc_new w2 _)) (by simp [Value.oneCell']) (by omega) (by unfold maxLen; omega) (by omega) (by simp; omega) (w2.heap.size + 1) (by simp) ?_; intro g3 cap3 w3 hown3 hgrow3 hat3 hlt3; have HA3 := (HA2.alloc (.cells #[.int .i64 v.cost] 3)).grown hgrow3 (by have := (hown2.lt g rfl).1; simp [Value.ownBlock]; omega); have B3 : Below w.heap.size w w3 := ((B1.drew.trans (k2.mono B1.size)).alloc (by omega) (.cells #[.int .i64 v.cost] 3)).grown hgrow3 (by simp; omega) (fun k hk => by have := (hown2.lt k hk).1; omega))
      | (refine step_append_lies _ (by rfl) _ _ _ (by rfl) (w.heap.size + 1) 3 i0 (.int .i64 0) 1 8 Try.underlying38 hi hz0 hz1 hz2 rfl (by omega) (.slice (some ⟨g, 0, none⟩) 8 cap) 8 _ (by rfl) (hown2) ⟨w1.heap.size, 0, none⟩ 1 1 ([.int .i64 v.cost]) (by rfl) (by rfl) (World.news_of_block (cs := #[.int .i64 v.cost]) (t := 3) (fr := (0, 0)) HC2) (by simp [Value.oneCell']) (by omega) (by unfold maxLen; omega) (by omega) (hs2) (w2.heap.size) (by simp) ?_; intro g3 cap3 w3 hown3 hgrow3 hat3 hlt3; have HA3 := HA2.grown hgrow3 (by have := (hown2.lt g rfl).1; simp [Value.ownBlock]; omega); have B3 : Below w.heap.size w w3 := (((B1.alloc B1.size (.cells #[.int .i64 v.cost] 3)).drew).trans (k2.mono (by have := B1.size; simp; omega))).grown hgrow3 (by omega) (fun k hk => by have := (hown2.lt k hk).1; omega)))
  all_goals (
    have hs3 : w.heap.size + 1 ≤ w3.heap.size := HA3.lt
    rw [show (8 + 1 : Nat) = 9 from rfl] at hown3 ⊢
    clear HA HA2 hown2 hgrow3 hat3 k2 B1 hg2
    go_wp2_with (refine load_blk (k := 9) 25 (brC v.sender) (by rfl) rfl rfl HA3 (by kernel_rfl) (by kernel_rfl) rfl ?_)
    refine (HN2.out _ (by have := HA3.lt; (try simp); omega)).mono ?_
    rintro e w4 ⟨g4, cap4, rfl, hown4, hg4, k4⟩
    have HA4 := HA3.kept k4
    have hs4 : w.heap.size + 1 ≤ w4.heap.size := HA4.lt
    have hown34 := owns_below hown3 hlt3 k4
    go_wp2_with (first
      | (at_builtin; refine wpList_append_lies _ rfl _ _ _ rfl (w.heap.size + 1) 3 i0 (.int .i64 0) 1 8 Try.underlying38 hi hz0 hz1 hz2 rfl (by omega) (.slice (some ⟨g3, 0, none⟩) 9 cap3) 9 _ rfl hown34 ⟨g4, 0, none⟩ 8 cap4 (ivL l2) rfl hn2 (news_own (ints_own hown4)) (ivL_one _) (by omega) (by unfold maxLen; omega) (by omega) hs4 w4.heap.size rfl ?_; intro g5 cap5 w5 hown5 hgrow5 hat5 hlt5; have HA5 := HA4.grown hgrow5 (by have := (hown3.lt g3 rfl).1; simp [Value.ownBlock]; omega); have B5 : Below w.heap.size w w5 := (B3.trans (k4.mono B3.size)).grown hgrow5 (by omega) (fun k hk => by have := (hown3.lt k hk).1; omega); rw [show (9 + 8 : Nat) = 17 from rfl] at hown5 ⊢; have q0 := HA5.cv 17 (.int .i64 v.pp) rfl; have q1 := HA5.cv 18 (.int .i64 v.pn) rfl; have q2 := HA5.cv 19 (.int .i64 v.ap) rfl; have q3 := HA5.cv 20 (.int .i64 v.an) rfl; have hs5 : w.heap.size + 1 ≤ w5.heap.size := HA5.lt; clear HA3 HA4 hown3 hown34 hown4 hgrow5 hat5 k4 B3 hg4)
      | (at_builtin; refine wpList_append_lies _ rfl _ _ _ rfl (w.heap.size + 1) 3 i0 (.int .i64 0) 1 8 Try.underlying38 hi hz0 hz1 hz2 rfl (by omega) (.slice (some ⟨g5, 0, none⟩) 17 cap5) 17 _ rfl (hown5.alloc _) ⟨w5.heap.size, 0, none⟩ 4 4 [.int .i64 v.pp, .int .i64 v.pn, .int .i64 v.ap, .int .i64 v.an] rfl rfl (World.news_of_block (cs := #[.int .i64 v.pp, .int .i64 v.pn, .int .i64 v.ap, .int .i64 v.an]) (t := 3) (fr := (0, 0)) (heap_alloc_new w5 _)) (by simp [Value.oneCell']) (by omega) (by unfold maxLen; omega) (by omega) (by simp; omega) (w5.heap.size + 1) (by simp) ?_; intro g6 cap6 w6 hown6 hgrow6 hat6 hlt6))
    go_ret
    refine ⟨g6, cap6, rfl, owns_mono ?_ (Nat.le_trans hbs (Nat.le_succ _)), hlt6, (B5.alloc B5.size _).grown hgrow6 (by simp; omega) (fun k hk => by have := (hown5.lt k hk).1; omega)⟩
    rw [HL.out, ivL_append, ivL_append, ivL_append, ← List.append_assoc, ← List.append_assoc]
    exact hown6)

end Go.Proofs.Ytceiiolpggolbaa
