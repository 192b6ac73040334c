/- Texts one behind the other. lldp.Read at every text. The reference's cursor: what is thrown, eaten, counted, asked for. The reference's Fault; what was thrown is caught. The reference's parts: its door, its cursor's rest, rows of one. The reference's parts$1: names. -/
import Derived.Test.YtocgnbbnaamjjaaGreatDoorLrK1
import Derived.Test.YtocgnbbnaamjjaaGreatDoorLrK10
import Derived.Lib.BufferWrite
import Derived.BigRegion
import Derived.Defers
import Derived.Recover
namespace Go.Proofs.YtocgnbbnaamjjaaGreatDoor
open Go.RowKit
attribute [local go_sem ↓] Go.wp_at_zero Go.wp_at_succ
set_option linter.unusedSimpArgs false
set_option linter.unusedVariables false
set_option maxRecDepth 100000

/-- What a station tells, and its error. -/
def LdAns (R : LdR) (w : World) (e : Ending) (w' : World) : Prop := ∃ q er, e = .returned (.tuple #[.agg (ldC R.val q), er]) ∧ LdIn w' R.val q ∧ ErrAs w' er R.er R.pl ∧ Below w.heap.size w w'

theorem rows_inn {w : World} {D : Nat} {x : Ld} {q : LdA} (o1 : OwnSt w D (.slice q.de.1 x.de.length q.de.2) x.de) (o2 : OwnSt w D (.slice q.ho.1 x.ho.length q.ho.2) x.ho) (o3 : OwnSt w D (.slice q.sy.1 x.sy.length q.sy.2) x.sy) (o4 : OwnCp w D (.slice q.ca.1 x.ca.length q.ca.2) x.ca) (o5 : OwnMg w D (.slice q.ma.1 x.ma.length q.ma.2) x.ma) (o6 : OwnOg w D (.slice q.og.1 x.og.length q.og.2) x.og) : LdIn w x q := by
  obtain ⟨a1, c1, e1, i1⟩ := o1.inL
  obtain ⟨a2, c2, e2, i2⟩ := o2.inL
  obtain ⟨a3, c3, e3, i3⟩ := o3.inL
  obtain ⟨a4, c4, e4, i4⟩ := o4.inL
  obtain ⟨a5, c5, e5, i5⟩ := o5.inL
  obtain ⟨a6, c6, e6, i6⟩ := o6.inL
  cases e1; cases e2; cases e3; cases e4; cases e5; cases e6
  exact ⟨i1, i2, i3, i4, i5, i6⟩

theorem LdAc.zero {w : World} {D B : Nat} (h : Blk w B 29 (ldC zLd zLdA)) : LdAc w D B zLd := ⟨zLdA, h, .nil _ _, .nil _ _, .nil _ _, .nil _ _, .nil _ _, .nil _ _⟩

theorem exec_build_blkL {P : Program} {a : Act} {o : Oper} {w : World} {t : TypeId} {parts : Array (Nat × Operand)} (X : Array Value) (ho : o.op = .build t parts)
    (hf : P.built t (parts.map fun (i, x) => (i, a.eval x)).toList = some X) : (execOp a.eval o).run P w = .ok (.value (.agg X)) w := by
  have h1 := run_build (P := P) w t (parts.map fun (i, x) => (i, a.eval x)) X hf
  unfold execOp
  simp only [ho, Sem.run_bind, Result.andThen_ok, h1, Sem.run_pure]

theorem cell_alloc {w : World} {X j : Nat} {o : Obj} {v : Value} (h : w.cell? ⟨X, j, none⟩ = some v) (hlt : X < w.heap.size) : (w.alloc o).cell? ⟨X, j, none⟩ = some v := by
  have hk : (w.alloc o).heap[X]? = w.heap[X]? := Below.heap_alloc w o X hlt
  unfold World.cell? at h ⊢
  simp only at h ⊢
  rw [hk]
  exact h

theorem cell_grown {w w' : World} {B X j : Nat} {v : Value} (h : w.cell? ⟨X, j, none⟩ = some v) (hg : w.grownBy w' (some B)) (hX : X ≠ B) (hlt : X < w.heap.size) : w'.cell? ⟨X, j, none⟩ = some v := by
  have hk : w'.heap[X]? = w.heap[X]? := hg.block X hlt (by simpa using hX)
  unfold World.cell? at h ⊢
  simp only at h ⊢
  rw [hk]
  exact h

theorem zLd_in (w : World) : LdIn w zLd zLdA := ⟨Or.inl rfl, Or.inl rfl, Or.inl rfl, Or.inl rfl, Or.inl rfl, Or.inl rfl⟩

theorem LdAc.drew {w : World} {D B : Nat} {x : Ld} (h : LdAc w D B x) : LdAc w.drew D B x := h

theorem LdAc.otherT {w w' : World} {D B X : Nat} {x : Ld} {T : TypeId} {C : Array Value} (h : LdAc w D B x) (hX : Blk w X T C) (hT : T ≠ 29 ∧ T ≠ 9 ∧ T ≠ 86 ∧ T ≠ 89 ∧ T ≠ 111) (hg : w.grownBy w' (some X)) : LdAc w' D B x := by
  obtain ⟨q, hB, o1, o2, o3, o4, o5, o6⟩ := h
  have hst : ∀ Y U E, Blk w Y U E → U ≠ T → Blk w' Y U E := fun Y U E hY hU => hY.grown hg (by have := blk_ne hY hX hU; simpa using this)
  exact ⟨q, hst _ _ _ hB (Ne.symm hT.1), o1.stay (fun X C hX => hst _ _ _ hX (Ne.symm hT.2.1)), o2.stay (fun X C hX => hst _ _ _ hX (Ne.symm hT.2.1)), o3.stay (fun X C hX => hst _ _ _ hX (Ne.symm hT.2.1)), o4.stay (fun X C hX => hst _ _ _ hX (Ne.symm hT.2.2.1)), o5.stay (fun X C hX => hst _ _ _ hX (Ne.symm hT.2.2.2.1)), o6.stay (fun X C hX => hst _ _ _ hX (Ne.symm hT.2.2.2.2))⟩

set_option maxHeartbeats 1000000 in
theorem ldRead_any (s : ByteArray) (w : World) (hs : s.size ≤ 100000) (RR : LdR) (hRR : rdLd s.data.toList = RR) : Calls Tryz.prog 5 #[.string s] w (LdAns RR w) := by
  have HT := Lib.hid (fun (W : World) => tlRead_any s W hs _ rfl)
  have hW := Lib.hid (fun m b e (h : rdAll s.data.toList = .ok m b e) => wrote_rdAll s.data.toList m b e h)
  have hbn := Lib.hid (fun e p (h : rdAll s.data.toList = .bad e p) => rd_bad_ne s.data.toList _ _ _ _ e p h)
  have hls : s.data.toList.length = s.size := by simp
  have hRR := Lib.hid hRR
  have HA0 := Blk.new w 29 (ldC zLd zLdA)
  have b0 : Below w.heap.size w (w.alloc (.cells (ldC zLd zLdA) 29)) := (Below.refl _ _).alloc (Nat.le_refl _) _
  cases hR : rdAll s.data.toList with
  | bad e p =>
    rw [hR] at HT
    have hne := hbn.out _ _ hR
    have hv : Hid (RR = .bad e p) := by
      show _ = _
      rw [← hRR.out]
      unfold rdLd
      rw [hR]
      rfl
    clear hR hbn hW hRR
    go_enter Tryz.func5, Tryz.ntmps5
    go_wp2_with (refine alloc_blk 29 (ldC zLd zLdA) (by rfl) rfl Tryz.ldZero ?_)
    generalize w.alloc (.cells (ldC zLd zLdA) 29) = w1 at *
    refine (HT.out w1).mono ?_
    rintro r w2 ⟨v1, v2, er, rfl, HO, HN, HE, B2⟩
    have HE2 := HE
    rcases HE with ⟨-, q0, -⟩ | ⟨-, q, rfl, hF⟩
    · exact absurd q0 hne
    have HA2 := HA0.kept (show Below w1.heap.size w1 w2 from B2)
    have E2 := b0.trans (B2.mono b0.size)
    have hE2 := Lib.hid HE2
    clear HE2 hF HO HN HT
    go_wp2_with (first
      | (refine build_blk (t := 29) (ldC zLd zLdA) (by rfl) rfl (by kernel_rfl) ?_)
      | (refine store_blk (k := 0) 29 (.agg (ldC zLd zLdA)) (ldC zLd zLdA) (by rfl) rfl rfl rfl HA2 (by kernel_rfl) (Nat.le_of_eq rfl) (by rfl) (st_whole _ _ rfl) ?_; intro w3 HA3 b3 g3))
    refine bodyPost_ret (results_blk_tmp rfl rfl HA3 (by kernel_rfl) (by kernel_rfl)) rfl ?_
    rw [hv.out]
    refine ⟨zLdA, _, rfl, zLd_in _, ?_, E2.trans b3⟩
    have hq : q ≠ w.heap.size := by
      rcases hE2.out with ⟨h, -⟩ | ⟨-, q', h, hf⟩
      · cases h
      · cases h
        exact blk_ne hf HA2 (by decide)
    rcases hE2.out with ⟨h, -⟩ | ⟨-, q', h, hf⟩
    · cases h
    · exact Or.inr ⟨hne, q', h, hf.kept g3 (by cases h; simpa using hq)⟩
  | ok l a e =>
    have HT : Hid (∀ W : World, Calls Tryz.prog 16 #[.string s] W fun e' w' => ∃ v1 v2 er, e' = .returned (.tuple #[v1, v2, .int .i64 (e : Nat), er]) ∧ OwnTl w' W.heap.size v1 l ∧ OwnNat w' W.heap.size v2 a ∧ ErrAs w' er 0 (-1) ∧ Below W.heap.size W w') := fun W => tlRead_any s W hs (.ok l a e) hR
    obtain ⟨f1, f2, f3, f4, f5, f6, f7⟩ := hW.out l a e hR
    have hal : a.length = l.length := by rw [f5, offs_len]
    have hok := Lib.hid (fun k (hk : k < l.length) => okTl_all (f1 _ (List.getElem_mem hk)))
    have hll : l.length ≤ 50000 := by omega
    have hel : e ≤ 100000 := by omega
    have hv : Hid (RR = ldAtK e l a 0) := by
      show _ = _
      rw [← hRR.out, ldAtK_zero]
      unfold rdLd
      rw [hR]
      rfl
    have has := Lib.hid (fun k (hk : k < a.length) => (show a[k] ≤ 100000 by
      have h1 : k < l.length := by omega
      have h2 := offs_get l 0 k h1
      have h3 := tlWs_take l k h1
      have h4 : a[k] = (offs 0 l)[k]'(by rw [offs_len]; exact h1) := by simp only [f5]
      rw [h4, h2]
      have h5 : (tlWs (l.take k)).length ≤ (tlWs l).length := by
        conv => rhs; rw [← List.take_append_drop k l, tlWs_app, List.length_append]
        omega
      have h6 : (tlWs l).length + 2 = e + 2 := by
        have := f3
        unfold tlWrite at this
        rw [List.length_append] at this
        exact this
      omega))
    clear hR hbn hW f1 f2 f3 f4 f5 f6 f7 hRR
    go_enter Tryz.func5, Tryz.ntmps5
    go_wp2_with (refine alloc_blk 29 (ldC zLd zLdA) (by rfl) rfl Tryz.ldZero ?_)
    have hw1 : (w.alloc (.cells (ldC zLd zLdA) 29)).heap.size = w.heap.size + 1 := by simp
    generalize w.alloc (.cells (ldC zLd zLdA) 29) = w1 at *
    refine (HT.out w1).mono ?_
    rintro r w2 ⟨v1, v2, er, rfl, HO, HN, HE, B2⟩
    have her : er = .nilIface := by
      rcases HE with ⟨h, -⟩ | ⟨h, -⟩
      · exact h
      · exact absurd rfl h
    subst her
    obtain ⟨al, cl, rfl, HL⟩ := HO.inL
    obtain ⟨aa, ca, rfl, HS⟩ := HN.inL
    have HA2 := HA0.kept (show Below w1.heap.size w1 w2 from B2)
    have E2 := b0.trans (B2.mono b0.size)
    have hA2 : w.heap.size < w2.heap.size := HA2.lt
    have hbA : Hid (∀ b lo, aa = some ⟨b, lo, none⟩ → w.heap.size < b) := fun b lo e => by
      have hs1 : w1.heap.size = w.heap.size + 1 := hw1
      rcases HN.blk with q | ⟨g, C', q, hq, -⟩
      · rw [e] at q; cases q
      · rw [e] at q
        have q' : b = g := by simpa [Value.ownBlock] using q
        omega
    clear HE HO HN HT B2 b0 HA0 hw1
    have HB3 := Blk.new w2 29 (ldC zLd zLdA)
    have HC4 := Blk.new (w2.alloc (.cells (ldC zLd zLdA) 29)) 94 (cntC fun _ => 0)
    have HB4 := HB3.alloc (.cells (cntC fun _ => 0) 94)
    have K4 : Below w2.heap.size w2 ((w2.alloc (.cells (ldC zLd zLdA) 29)).alloc (.cells (cntC fun _ => 0) 94)) := ((Below.refl _ _).alloc (Nat.le_refl _) _).alloc (by simp) _
    have hsz3 : (w2.alloc (.cells (ldC zLd zLdA) 29)).heap.size = w2.heap.size + 1 := by simp
    go_wp2_with (first
      | (refine alloc_blk 29 (ldC zLd zLdA) (by rfl) rfl Tryz.ldZero ?_)
      | (refine alloc_blk 94 (cntC fun _ => 0) (by rfl) rfl Tryz.cntZero ?_))
    rw [hsz3] at HC4
    generalize hw4 : (w2.alloc (.cells (ldC zLd zLdA) 29)).alloc (.cells (cntC fun _ => 0) 94) = w4 at *
    clear hw4 hsz3 HB3
    generalize hD : w2.heap.size = D at *
    have HB4 := Lib.hid HB4
    go_wp2_with fail
    go_loopw [26] (fun i wr => ∃ k : Nat, k ≤ l.length ∧ i = .int .i64 k ∧ LdAc wr D D (ldVal (l.take k)) ∧ Blk wr (D + 1) 94 (cntC fun j => cntK j (l.take k)) ∧ Below D w2 wr ∧ Hid (RR = ldAtK e l a k)) (fun i _ => l.length - (intOf i).toNat)
    case atStart => exact ⟨0, by omega, rfl, LdAc.zero HB4.out, HC4, K4, hv⟩
    case round =>
      obtain ⟨k, hk, rfl, HAk, HCk, Bk, hRk⟩ := hrel
      by_cases hlt : k < l.length
      · have hka : k < a.length := by omega
        have hbl2D : Hid (∀ b lo, aa = some ⟨b, lo, none⟩ → b < D) := fun b lo e => by
          obtain ⟨b', lo', e', h', -⟩ := HS.at hka
          rw [e] at e'
          cases e'
          rw [← hD]
          exact h'
        obtain ⟨b, lo, rfl, hbl, hat⟩ := (HL.below (by rw [hD]; exact Bk)).at hlt
        obtain ⟨b2, lo2, rfl, hbl2, hat2⟩ := (HS.below (by rw [hD]; exact Bk)).at hka
        have q1 : (k : Int) < (l.length : Int) := by omega
        have q2 : decide ((k : Int) < (l.length : Int)) = true := decide_eq_true q1
        have q3 : (0 : Int) ≤ (k : Int) := by omega
        have q5 : (k : Int) < (a.length : Int) := by omega
        have HK := hat k hlt
        have HKS : Hid (∀ W, Below D w2 W → W.cell? ⟨b2, lo2 + k, none⟩ = some (.int .i64 (a[k] : Nat))) := fun W hW => by
          obtain ⟨b', lo', e', -, h'⟩ := (HS.below (by rw [hD]; exact hW)).at hka
          cases e'
          have q := h' k hka 0 (.int .i64 (a[k] : Nat)) rfl
          rw [Nat.mul_one, Nat.add_zero] at q
          exact q
        have h1 := hok.out k hlt
        have h2 := has.out k hka
        have HST := Lib.hid (ldAtK_step e l a k hlt)
        have HBD := Lib.hid (ldAtK_bad e l a k hlt hka)
        have HSV := Lib.hid (ldVal_snoc l k hlt)
        have HCN := Lib.hid (fun j => cntK_snoc j l k hlt)
        obtain ⟨z4, z5, z6, z7, z8, z9⟩ := fold_empty (l.take k)
        have hlk : (l.take k).length ≤ k := by rw [List.length_take]; omega
        generalize l[k] = x at *
        generalize a[k] = ak at *
        obtain ⟨xk, xt⟩ := x
        simp only at h1 HST HBD HSV HCN
        obtain ⟨kn, rfl⟩ : ∃ kn : Nat, xk = (kn : Int) := ⟨xk.toNat, by omega⟩
        have hkn : kn < 128 := by omega
        have hcl := cntK_le (kn : Int) (l.take k)
        have HF := Lib.hid (fun (W : World) (h : LdAc W D D (ldVal (l.take k))) => fault_any (ldVal (l.take k)) ⟨(kn : Int), xt⟩ k (cntK (kn : Int) (l.take k)) W h (Nat.le_refl D) (by show xt.size ≤ _; omega) (by omega) ⟨by show (0 : Int) < (kn : Int); omega, by show (kn : Int) ≤ 1000; omega⟩ (by omega) (fun q r => z4 (by rw [show (4 : Int) = (kn : Int) from q.symm]; exact r)) (fun q r => z5 (by rw [show (5 : Int) = (kn : Int) from q.symm]; exact r)) (fun q r => z6 (by rw [show (6 : Int) = (kn : Int) from q.symm]; exact r)) (fun q r => z7 (by rw [show (7 : Int) = (kn : Int) from q.symm]; exact r)) (by omega) (by omega))
        have hcg := cntC_get (fun j => cntK j (l.take k)) kn hkn
        have hcs := Lib.hid (fun g hg => cntC_set (fun j => cntK j (l.take k)) g kn hkn hg)
        have hcz := Lib.hid (cntC_size (fun j => cntK j (l.take k)))
        (try simp only at hcg)
        have hcb : cntK (kn : Int) (l.take k) ≤ 50000 := by omega
        have r1 : (0 : Int) ≤ (kn : Int) := by omega
        have r2 : (kn : Int) < 128 := by omega
        clear hat hat2 z4 z5 z6 z7 z8 z9 hlk hcl h1
        generalize hcc : cntK (kn : Int) (l.take k) = c at *
        have HCC := Lib.hid hcc
        clear hcc
        obtain ⟨V, hV⟩ : ∃ V, V = vrd ⟨(kn : Int), xt⟩ k c := ⟨_, rfl⟩
        rw [← hV] at HST HBD HF
        clear hV
        have cC := HCk.cv kn _ hcg
        have hCr := HCk.lt
        have hAr := HAk.lt
        go_upto_region 9 with (first
          | (refine load_cells (B := b) (k := lo + k * 2) 80 (tlC ⟨(kn : Int), xt⟩) (by rfl) rfl rfl HK (by kernel_rfl) (by kernel_rfl) ?_)
          | (refine alloc_blk 80 (tlC zTl) (by rfl) rfl Tryz.tlZero ?_)
          | (refine store_blk (k := 0) 80 (.agg (tlC ⟨(kn : Int), xt⟩)) (tlC ⟨(kn : Int), xt⟩) (by rfl) rfl rfl rfl (Blk.new wr _ _) (by kernel_rfl) (Nat.le_of_eq rfl) (by rfl) (st_whole _ _ rfl) ?_; intro w5 HT5 b5 g5))
        (try simp only [Act.put, List.setIfInBounds_toArray, List.set_cons_zero, List.set_cons_succ])
        have A5 : Below wr.heap.size wr w5 := ((Below.refl _ _).alloc (Nat.le_refl _) _).trans b5
        have HA5 := HAk.kept A5
        have HC5 := HCk.kept A5
        have hDr : D ≤ wr.heap.size := by have := Bk.size; omega
        have B5 := Bk.trans (A5.mono hDr)
        have k5 := HT5.cv 0 (.int .i64 (kn : Int)) rfl
        have c5 := HC5.cv kn _ hcg
        have hTD : wr.heap.size ≠ D := by omega
        have hCD : D + 1 ≠ D := by omega
        clear b5 g5 A5 HAk HCk Bk HK cC hbl hbl2
        generalize wr.heap.size = T at *
        refine wp_region_noPanic ?_
        refine wp_region_held_drew (S := fun w' => Blk w' T 80 (tlC ⟨(kn : Int), xt⟩) ∧ w'.cell? ⟨T, 0, none⟩ = some (.int .i64 (kn : Int)) ∧ w'.cell? ⟨D + 1, kn, none⟩ = some (.int .i64 (c : Nat))) (by kernel_rfl) ?_ (fun hHeld => ?_)
        · exact ⟨HT5, k5, c5⟩
        refine wpAnyH_take (i := 0) (v := .agg (tlC ⟨(kn : Int), xt⟩)) rfl (by kernel_rfl) (by kernel_rfl) (by kernel_rfl) (fun _ _ _ h => h) (Or.inl ⟨by rfl, fun w hSw => exec_load_blk (k := 0) 80 (tlC ⟨(kn : Int), xt⟩) rfl rfl hSw.1 (by kernel_rfl) (by kernel_rfl) rfl⟩) (by assumption) ?_
        (try simp only [Act.put, List.getElem_toArray, List.getElem_cons_zero, List.getElem_cons_succ, List.setIfInBounds_toArray, List.set_cons_zero, List.set_cons_succ])
        refine wpAnyH_take (i := 1) (v := ?_) rfl (by kernel_rfl) (by kernel_rfl) (by kernel_rfl) (fun _ _ _ h => h) (Or.inl ⟨by rfl, ?_⟩) (by assumption) ?_
        rotate_left
        · (intro w hSw; (try dsimp only at hSw); go_simp; (try with_reducible rfl))
        (try simp only [Act.put, List.getElem_toArray, List.getElem_cons_zero, List.getElem_cons_succ, List.setIfInBounds_toArray, List.set_cons_zero, List.set_cons_succ])
        refine wpAnyH_take (i := 2) (v := ?_) rfl (by kernel_rfl) (by kernel_rfl) (by kernel_rfl) (fun _ _ _ h => h) (Or.inl ⟨by rfl, ?_⟩) (by assumption) ?_
        rotate_left
        · (intro w hSw; (try dsimp only at hSw); go_simp; (try with_reducible rfl))
        (try simp only [Act.put, List.getElem_toArray, List.getElem_cons_zero, List.getElem_cons_succ, List.setIfInBounds_toArray, List.set_cons_zero, List.set_cons_succ])
        refine wpAnyH_take (i := 3) (v := .int .i64 (kn : Int)) rfl (by kernel_rfl) (by kernel_rfl) (by kernel_rfl) (fun _ _ _ h => h) (Or.inl ⟨by rfl, fun w hSw => by have cc := hSw.2.1; (try dsimp only at cc); go_simp⟩) (by assumption) ?_
        (try simp only [Act.put, List.getElem_toArray, List.getElem_cons_zero, List.getElem_cons_succ, List.setIfInBounds_toArray, List.set_cons_zero, List.set_cons_succ])
        refine wpAnyH_take (i := 4) (v := ?_) rfl (by kernel_rfl) (by kernel_rfl) (by kernel_rfl) (fun _ _ _ h => h) (Or.inl ⟨by rfl, ?_⟩) (by assumption) ?_
        rotate_left
        · (intro w hSw; (try dsimp only at hSw); go_simp; (try with_reducible rfl))
        (try simp only [Act.put, List.getElem_toArray, List.getElem_cons_zero, List.getElem_cons_succ, List.setIfInBounds_toArray, List.set_cons_zero, List.set_cons_succ])
        refine wpAnyH_take (i := 5) (v := .int .i64 (c : Nat)) rfl (by kernel_rfl) (by kernel_rfl) (by kernel_rfl) (fun _ _ _ h => h) (Or.inl ⟨by rfl, fun w hSw => by have cc := hSw.2.2; (try dsimp only at cc); go_simp⟩) (by assumption) ?_
        (try simp only [Act.put, List.getElem_toArray, List.getElem_cons_zero, List.getElem_cons_succ, List.setIfInBounds_toArray, List.set_cons_zero, List.set_cons_succ])
        refine wpAnyH_ready (rs := [6]) (by kernel_rfl) (by simp) ?_
        refine AllReadyH.cons rfl (fun K hK => ?_) AllReadyH.nil
        simp only [List.getElem_toArray, List.getElem_cons_zero, List.getElem_cons_succ]
        go_simp
        go_at_call 17; (refine (HF.out _ (show LdAc w5.drew D D (ldVal (l.take k)) from HA5)).mono ?_); rintro r w6 ⟨rfl, hac, K6, E6⟩; have HT6 := K6 _ _ _ (show Blk w5.drew T _ _ from HT5) hTD (by decide); have HC6 := K6 _ _ _ (show Blk w5.drew (D + 1) _ _ from HC5) hCD (by decide); have B6 : Below D w2 w6 := (Below.drew B5).trans E6; have k6 := HT6.cv 0 (.int .i64 (kn : Int)) rfl; have c6 := HC6.cv kn _ hcg; replace hac := Lib.hid hac; clear HF K6 E6 HA5 HT5 HC5 B5
        refine hK.out _ _ ?_ (fun hHeld => ?_)
        · exact ⟨HT6, k6, c6⟩
        clear hK K
        (try simp only [Act.put, List.getElem_toArray, List.getElem_cons_zero, List.getElem_cons_succ, List.setIfInBounds_toArray, List.set_cons_zero, List.set_cons_succ])
        refine wpAnyH_take (i := 7) (v := ?_) rfl (by kernel_rfl) (by kernel_rfl) (by kernel_rfl) (fun _ _ _ h => h) (Or.inl ⟨by rfl, ?_⟩) (by assumption) ?_
        rotate_left
        · (intro w hSw; (try dsimp only at hSw); go_simp; (try with_reducible rfl))
        (try simp only [Act.put, List.getElem_toArray, List.getElem_cons_zero, List.getElem_cons_succ, List.setIfInBounds_toArray, List.set_cons_zero, List.set_cons_succ])
        refine wpAnyH_done (by kernel_rfl) ?_ _
        refine NoPanic.normal ?_
        have HA6 := HA2.below B6 hA2
        by_cases hV0 : V = 0
        · have hV1 : (V != 0) = false := by simp [hV0]
          have HA7 := hac.out hV0
          have hR2 := hRk.out.trans (HST.out hV0)
          replace hR2 := Lib.hid hR2
          have hset : Hid ((cntC fun j => cntK j (l.take k)).setIfInBounds kn (.int .i64 ((c + 1 : Nat) : Int)) = cntC fun j => cntK j (l.take (k + 1))) := by
            have q := hcs.out (fun j => cntK j (l.take (k + 1))) (fun j => by rw [HCN.out]; by_cases e : (kn : Int) = (j : Int) <;> simp [e] <;> omega)
            exact q
          have hk1 : kn + 1 ≤ 128 := by omega
          have hz1 : Hid (kn + 1 ≤ (cntC fun j => cntK j (l.take k)).size) := by show _ ≤ _; rw [hcz.out]; exact hk1
          rw [← HSV.out] at HA7
          clear hac HST HBD hV0 HSV hRk
          go_wp2_with (first
            | (refine store_blk (k := kn) 3 (.int .i64 ((c + 1 : Nat) : Int)) (cntC fun j => cntK j (l.take (k + 1))) (by rfl) rfl rfl rfl HC6 (by kernel_rfl) hz1.out (by rfl) (st_cell _ _ kn _ rfl hz1.out hset.out) ?_; intro w7 HC7 b7 g7))
          have HA8 := HA7.otherT HC6 (by decide) g7
          have B7 := B6.trans (b7.mono (Nat.le_succ D))
          go_roundw
          case rel => exact ⟨k + 1, by omega, by go_num, HA8, HC7, B7, hR2⟩
          case measure => simp [intOf]; omega
        · have hV1 : (V != 0) = true := by simpa using hV0
          have HRB : Hid (RR = .bad V ak) := hRk.out.trans (HBD.out hV0)
          have hVV := Lib.hid hV0
          have c6s := HKS.out _ B6
          have hbA2 := hbA.out _ _ rfl
          have hb2 : b2 < D := hbl2D.out _ _ rfl
          clear hac HST HBD HSV hRk hV0 k6 c6 HT6 HC6 hcs
          go_upto_region 11 with (fail)
          refine wp_region_noPanic ?_
          refine wp_region_held_drew (S := fun w' => w'.cell? ⟨b2, lo2 + k, none⟩ = some (.int .i64 (ak : Nat))) (by kernel_rfl) ?_ (fun hHeld => ?_)
          · exact c6s
          refine wpAnyH_take (i := 0) (v := .agg (ldC zLd zLdA)) rfl (by kernel_rfl) (by kernel_rfl) (by kernel_rfl) (fun _ _ _ h => h) (Or.inl ⟨by rfl, fun w hSw => exec_build_blkL (t := 29) (ldC zLd zLdA) rfl (by kernel_rfl)⟩) (by assumption) ?_
          (try simp only [Act.put, List.getElem_toArray, List.getElem_cons_zero, List.getElem_cons_succ, List.setIfInBounds_toArray, List.set_cons_zero, List.set_cons_succ])
          refine wpAnyH_take (i := 1) (v := ?_) rfl (by kernel_rfl) (by kernel_rfl) (by kernel_rfl) (fun _ _ _ h => h) (Or.inl ⟨by rfl, ?_⟩) (by assumption) ?_
          rotate_left
          · (intro w hSw; (try dsimp only at hSw); go_simp; (try with_reducible rfl))
          (try simp only [Act.put, List.getElem_toArray, List.getElem_cons_zero, List.getElem_cons_succ, List.setIfInBounds_toArray, List.set_cons_zero, List.set_cons_succ])
          refine wpAnyH_take (i := 2) (v := ?_) rfl (by kernel_rfl) (by kernel_rfl) (by kernel_rfl) (fun _ _ _ h => h) (Or.inl ⟨by rfl, ?_⟩) (by assumption) ?_
          rotate_left
          · (intro w hSw; (try dsimp only at hSw); go_simp; (try with_reducible rfl))
          (try simp only [Act.put, List.getElem_toArray, List.getElem_cons_zero, List.getElem_cons_succ, List.setIfInBounds_toArray, List.set_cons_zero, List.set_cons_succ])
          refine wpAnyH_take (i := 3) (v := ?_) rfl (by kernel_rfl) (by kernel_rfl) (by kernel_rfl) (fun _ _ _ h => h) (Or.inl ⟨by rfl, ?_⟩) (by assumption) ?_
          rotate_left
          · (intro w hSw; (try dsimp only at hSw); go_simp; (try with_reducible rfl))
          (try simp only [Act.put, List.getElem_toArray, List.getElem_cons_zero, List.getElem_cons_succ, List.setIfInBounds_toArray, List.set_cons_zero, List.set_cons_succ])
          refine wpAnyH_take (i := 4) (v := ?_) rfl (by kernel_rfl) (by kernel_rfl) (by kernel_rfl) (fun _ _ _ h => h) (Or.inl ⟨by rfl, ?_⟩) (by assumption) ?_
          rotate_left
          · (intro w hSw; (try dsimp only at hSw); go_simp; (try with_reducible rfl))
          (try simp only [Act.put, List.getElem_toArray, List.getElem_cons_zero, List.getElem_cons_succ, List.setIfInBounds_toArray, List.set_cons_zero, List.set_cons_succ])
          refine wpAnyH_take (i := 5) (v := .int .i64 (ak : Nat)) rfl (by kernel_rfl) (by kernel_rfl) (by kernel_rfl) (fun _ _ _ h => h) (Or.inl ⟨by rfl, fun w hSw => by (try dsimp only at hSw); go_simp⟩) (by assumption) ?_
          (try simp only [Act.put, List.getElem_toArray, List.getElem_cons_zero, List.getElem_cons_succ, List.setIfInBounds_toArray, List.set_cons_zero, List.set_cons_succ])
          refine wpAnyH_take (i := 6) (v := .agg (#[.int .i64 V, .int .i64 (ak : Nat)])) rfl (by kernel_rfl) (by kernel_rfl) (by kernel_rfl) (fun _ _ _ h => h) (Or.inl ⟨by rfl, fun w hSw => exec_build_blkL (t := 99) (#[.int .i64 V, .int .i64 (ak : Nat)]) rfl (by kernel_rfl)⟩) (by assumption) ?_
          (try simp only [Act.put, List.getElem_toArray, List.getElem_cons_zero, List.getElem_cons_succ, List.setIfInBounds_toArray, List.set_cons_zero, List.set_cons_succ])
          refine wpAnyH_ready (rs := [7, 9]) (by kernel_rfl) (by simp) ?_
          refine AllReadyH.cons rfl (fun K hK => ?_) (AllReadyH.cons rfl (fun K hK => ?_) AllReadyH.nil)
          · have E6 : Below w.heap.size w w6 := E2.trans (B6.mono (Nat.le_of_lt hA2))
            have hA6 : w.heap.size < w6.heap.size := HA6.lt
            have hb6 : b2 < w6.heap.size := by have := B6.size; have := E2.size; omega
            simp only [List.getElem_toArray, List.getElem_cons_zero, List.getElem_cons_succ]
            rw [if_pos (by rfl)]
            go_simp
            have HQ := (Blk.new w6 99 #[.int .i64 V, .int .i64 (ak : Nat)]).drew
            have HAx := ((show Blk w6 w.heap.size 29 (ldC zLd zLdA) from HA6).alloc (.cells #[.int .i64 V, .int .i64 (ak : Nat)] 99)).drew
            have EX : Below w.heap.size w (w6.alloc (.cells #[.int .i64 V, .int .i64 (ak : Nat)] 99)).drew := (E6.alloc E6.size _).drew
            have cX : (w6.alloc (.cells #[.int .i64 V, .int .i64 (ak : Nat)] 99)).drew.cell? ⟨b2, lo2 + k, none⟩ = some (.int .i64 (ak : Nat)) := cell_alloc (w := w6) c6s (show b2 < w6.heap.size from hb6)
            have hGA : w.heap.size < w6.heap.size := hA6
            have hbX : b2 < (w6.alloc (.cells #[.int .i64 V, .int .i64 (ak : Nat)] 99)).drew.heap.size := by show b2 < (w6.alloc _).heap.size; simp; omega
            generalize (w6.alloc (.cells #[.int .i64 V, .int .i64 (ak : Nat)] 99)).drew = w7 at *
            generalize w6.heap.size = G at *
            refine hK.out _ _ ?_ (fun hHeld => ?_)
            · exact cX
            clear hK K
            (try simp only [Act.put, List.getElem_toArray, List.getElem_cons_zero, List.getElem_cons_succ, List.setIfInBounds_toArray, List.set_cons_zero, List.set_cons_succ])
            refine wpAnyH_take (i := 8) (v := ?_) rfl (by kernel_rfl) (by kernel_rfl) (by kernel_rfl) (fun _ _ _ h => h) (Or.inl ⟨by rfl, ?_⟩) (by assumption) ?_
            rotate_left
            · (intro w hSw; (try dsimp only at hSw); go_simp; (try with_reducible rfl))
            (try simp only [Act.put, List.getElem_toArray, List.getElem_cons_zero, List.getElem_cons_succ, List.setIfInBounds_toArray, List.set_cons_zero, List.set_cons_succ])
            refine wpAnyH_ready (rs := [9]) (by kernel_rfl) (by simp) ?_
            refine AllReadyH.cons rfl (fun K hK => ?_) AllReadyH.nil
            simp only [List.getElem_toArray, List.getElem_cons_zero, List.getElem_cons_succ]
            rw [if_pos (by rfl)]
            refine wp_store_op (k := 0) 29 (.agg (ldC zLd zLdA)) (ldC zLd zLdA) (by rfl) rfl rfl HAx (by kernel_rfl) (Nat.le_of_eq rfl) (by rfl) (st_whole _ _ rfl) (fun w8 HA8 b8 g8 => ?_)
            have E9 := EX.trans b8
            have HQ9 := HQ.grown g8 (by simp; omega)
            have HA9 := HA8
            have c8 := cell_grown cX g8 (by omega) hbX
            refine hK.out _ _ ?_ (fun hHeld => ?_)
            · exact c8
            clear hK K
            (try simp only [Act.put, List.getElem_toArray, List.getElem_cons_zero, List.getElem_cons_succ, List.setIfInBounds_toArray, List.set_cons_zero, List.set_cons_succ])
            refine wpAnyH_take (i := 10) (v := ?_) rfl (by kernel_rfl) (by kernel_rfl) (by kernel_rfl) (fun _ _ _ h => h) (Or.inl ⟨by rfl, ?_⟩) (by assumption) ?_
            rotate_left
            · (intro w hSw; (try dsimp only at hSw); go_simp; (try with_reducible rfl))
            (try simp only [Act.put, List.getElem_toArray, List.getElem_cons_zero, List.getElem_cons_succ, List.setIfInBounds_toArray, List.set_cons_zero, List.set_cons_succ])
            refine wpAnyH_done (by kernel_rfl) ?_ _
            refine NoPanic.normal ?_
            go_wp2_with fail
            (try simp only [Exit.inBlock, Exit.then])
            refine bodyPost_ret (results_blk_tmp rfl rfl HA9 (by kernel_rfl) (by kernel_rfl)) rfl ?_
            rw [HRB.out]
            exact ⟨zLdA, _, rfl, zLd_in _, Or.inr ⟨hVV.out, G, rfl, HQ9⟩, E9⟩
          · have E6 : Below w.heap.size w w6 := E2.trans (B6.mono (Nat.le_of_lt hA2))
            have hA6 : w.heap.size < w6.heap.size := HA6.lt
            have hb6 : b2 < w6.heap.size := by have := B6.size; have := E2.size; omega
            simp only [List.getElem_toArray, List.getElem_cons_zero, List.getElem_cons_succ]
            rw [if_pos (by rfl)]
            refine wp_store_op (k := 0) 29 (.agg (ldC zLd zLdA)) (ldC zLd zLdA) (by rfl) rfl rfl (show Blk w6.drew w.heap.size 29 (ldC zLd zLdA) from HA6) (by kernel_rfl) (Nat.le_of_eq rfl) (by rfl) (st_whole _ _ rfl) (fun w7 HA8 b8 g8 => ?_)
            have E7 : Below w.heap.size w w7 := (Below.drew E6).trans b8
            have c7 := cell_grown (show w6.drew.cell? ⟨b2, lo2 + k, none⟩ = _ from c6s) g8 (by omega) hb6
            replace hb6 : b2 < w7.heap.size := Nat.lt_of_lt_of_le hb6 g8.size
            replace hA6 : w.heap.size < w7.heap.size := Nat.lt_of_lt_of_le hA6 g8.size
            refine hK.out _ _ ?_ (fun hHeld => ?_)
            · exact c7
            clear hK K
            (try simp only [Act.put, List.getElem_toArray, List.getElem_cons_zero, List.getElem_cons_succ, List.setIfInBounds_toArray, List.set_cons_zero, List.set_cons_succ])
            refine wpAnyH_ready (rs := [7]) (by kernel_rfl) (by simp) ?_
            refine AllReadyH.cons rfl (fun K hK => ?_) AllReadyH.nil
            simp only [List.getElem_toArray, List.getElem_cons_zero, List.getElem_cons_succ]
            rw [if_pos (by rfl)]
            go_simp
            have HQ := Blk.new w7 99 #[.int .i64 V, .int .i64 (ak : Nat)]
            have HAx := (show Blk w7 w.heap.size 29 (ldC zLd zLdA) from HA8).alloc (.cells #[.int .i64 V, .int .i64 (ak : Nat)] 99)
            have EX : Below w.heap.size w (w7.alloc (.cells #[.int .i64 V, .int .i64 (ak : Nat)] 99)) := E7.alloc E7.size _
            have cX : (w7.alloc (.cells #[.int .i64 V, .int .i64 (ak : Nat)] 99)).cell? ⟨b2, lo2 + k, none⟩ = some (.int .i64 (ak : Nat)) := cell_alloc c7 (show b2 < w7.heap.size from hb6)
            have hGA : w.heap.size < w7.heap.size := hA6
            have hbX : b2 < (w7.alloc (.cells #[.int .i64 V, .int .i64 (ak : Nat)] 99)).heap.size := by simp; omega
            generalize w7.alloc (.cells #[.int .i64 V, .int .i64 (ak : Nat)] 99) = w8 at *
            generalize w7.heap.size = G at *
            have HA9 := HAx
            have HQ9 := HQ
            have E9 := EX
            refine hK.out _ _ ?_ (fun hHeld => ?_)
            · exact cX
            clear hK K
            (try simp only [Act.put, List.getElem_toArray, List.getElem_cons_zero, List.getElem_cons_succ, List.setIfInBounds_toArray, List.set_cons_zero, List.set_cons_succ])
            refine wpAnyH_take (i := 8) (v := ?_) rfl (by kernel_rfl) (by kernel_rfl) (by kernel_rfl) (fun _ _ _ h => h) (Or.inl ⟨by rfl, ?_⟩) (by assumption) ?_
            rotate_left
            · (intro w hSw; (try dsimp only at hSw); go_simp; (try with_reducible rfl))
            (try simp only [Act.put, List.getElem_toArray, List.getElem_cons_zero, List.getElem_cons_succ, List.setIfInBounds_toArray, List.set_cons_zero, List.set_cons_succ])
            refine wpAnyH_take (i := 10) (v := ?_) rfl (by kernel_rfl) (by kernel_rfl) (by kernel_rfl) (fun _ _ _ h => h) (Or.inl ⟨by rfl, ?_⟩) (by assumption) ?_
            rotate_left
            · (intro w hSw; (try dsimp only at hSw); go_simp; (try with_reducible rfl))
            (try simp only [Act.put, List.getElem_toArray, List.getElem_cons_zero, List.getElem_cons_succ, List.setIfInBounds_toArray, List.set_cons_zero, List.set_cons_succ])
            refine wpAnyH_done (by kernel_rfl) ?_ _
            refine NoPanic.normal ?_
            go_wp2_with fail
            (try simp only [Exit.inBlock, Exit.then])
            refine bodyPost_ret (results_blk_tmp rfl rfl HA9 (by kernel_rfl) (by kernel_rfl)) rfl ?_
            rw [HRB.out]
            exact ⟨zLdA, _, rfl, zLd_in _, Or.inr ⟨hVV.out, G, rfl, HQ9⟩, E9⟩
      · obtain rfl : k = l.length := by omega
        have q2 : decide ((l.length : Int) < (l.length : Int)) = false := decide_eq_false (by omega)
        have HAr := HA2.below Bk hA2
        have Er := E2.trans (Bk.mono (Nat.le_of_lt hA2))
        have hRe := hRk.out
        rw [ldAtK_end] at hRe
        rw [List.take_length] at HAk
        have hDr : D ≤ wr.heap.size := by have := Bk.size; omega
        by_cases h3 : l.length < 3
        · have q4 : decide ((l.length : Int) < 3) = true := decide_eq_true (by omega)
          have q5 : (l.length : Int) < 3 := by omega
          rw [if_pos h3] at hRe
          have HRE := Lib.hid hRe
          have HAx := HAr.alloc (.cells #[.int .i64 7, .int .i64 (e : Nat)] 99)
          have HQ := Blk.new wr 99 #[.int .i64 7, .int .i64 (e : Nat)]
          have Ex := Er.alloc Er.size (.cells #[.int .i64 7, .int .i64 (e : Nat)] 99)
          have hGA : w.heap.size < wr.heap.size := HAr.lt
          clear hRe h3 HCk HAk hok has HL HS hbA hv
          go_wp2_with (first
            | (refine build_blk (t := 29) (ldC zLd zLdA) (by rfl) rfl (by kernel_rfl) ?_)
            | (refine store_blk (k := 0) 29 (.agg (ldC zLd zLdA)) (ldC zLd zLdA) (by rfl) rfl rfl rfl HAx (by kernel_rfl) (Nat.le_of_eq rfl) (by rfl) (st_whole _ _ rfl) ?_; intro w8 HA8 b8 g8))
          refine bodyPost_ret (results_blk_tmp rfl rfl HA8 (by kernel_rfl) (by kernel_rfl)) rfl ?_
          rw [HRE.out]
          exact ⟨zLdA, _, rfl, zLd_in _, Or.inr ⟨by show (7 : Int) ≠ 0; decide, wr.heap.size, rfl, HQ.grown g8 (by simp; omega)⟩, Ex.trans b8⟩
        · have q4 : decide ((l.length : Int) < 3) = false := decide_eq_false (by omega)
          have q5 : ¬ (l.length : Int) < 3 := by omega
          have q6 : decide (l.length < 3) = false := decide_eq_false h3
          rw [if_neg h3] at hRe
          have HRE := Lib.hid hRe
          obtain ⟨q, HBk, o1, o2, o3, o4, o5, o6⟩ := HAk
          clear hRe h3 HCk hok has HL HS hbA hv
          generalize ldVal l = y at *
          go_wp2_with (first
            | (refine load_blk (k := 0) 29 (ldC y q) (by rfl) rfl rfl HBk (by kernel_rfl) (by kernel_rfl) rfl ?_)
            | (refine store_blk (k := 0) 29 (.agg (ldC y q)) (ldC y q) (by rfl) rfl rfl rfl HAr (by kernel_rfl) (Nat.le_of_eq rfl) (by rfl) (st_whole _ _ rfl) ?_; intro w8 HA8 b8 g8))
          refine bodyPost_ret (results_blk_tmp rfl rfl HA8 (by kernel_rfl) (by kernel_rfl)) rfl ?_
          rw [HRE.out]
          exact ⟨q, _, rfl, rows_inn (o1.other HAr (by decide) g8) (o2.other HAr (by decide) g8) (o3.other HAr (by decide) g8) (o4.other HAr (by decide) g8) (o5.other HAr (by decide) g8) (o6.other HAr (by decide) g8), Or.inl ⟨rfl, rfl, rfl⟩, Er.trans b8⟩

end Go.Proofs.YtocgnbbnaamjjaaGreatDoor

namespace Go.Proofs.YtocgnbbnaamjjaaGreatDoor
open Go.RowKit
attribute [local go_sem ↓] Go.wp_at_zero Go.wp_at_succ
set_option linter.unusedSimpArgs false
set_option linter.unusedVariables false
set_option maxRecDepth 100000

/-- Block c is a cursor over s, at p, from off on. -/
def Cur (w : World) (c : Nat) (s : ByteArray) (p off : Nat) : Prop := Blk w c 117 #[.string s, .int .i64 p, .int .i64 off]

/-- What is thrown. -/
def Thr (e pl : Int) : Value := .iface 143 (.agg #[.int .i64 e, .int .i64 pl])

def Thrown (e pl : Int) : List PanicEntry := [{ v := Thr e pl, recovered := false }]

theorem throw_any {w : World} {c p off : Nat} {s : ByteArray} (h : Cur w c s p off) (e : Int) (x : Int) (hx : 0 ≤ x) (hb : (off : Int) + x ≤ 281474976710656) :
    Calls Tryz.prog 29 #[.pointer (some ⟨c, 0, none⟩), .int .i64 e, .int .i64 x] w fun r w' => r = .panicked (Thrown e (off + x)) ∧ w = w' := by
  have c2 := h.cv 2 (.int .i64 off) rfl
  unfold Thrown Thr
  go_enter Tryz.func29, Tryz.ntmps29
  go_wp2
  exact ⟨rfl, rfl, rfl⟩

theorem Cur.set {w : World} {c p off : Nat} {s : ByteArray} (h : Cur w c s p off) (q : Int) : (w.setCell ⟨c, 1, none⟩ (.int .i64 q)).heap[c]? = some (.cells #[.string s, .int .i64 q, .int .i64 off] 117 (0, 0)) := by
  have h' : w.heap[c]? = some (.cells #[.string s, .int .i64 p, .int .i64 off] 117 (0, 0)) := h
  show (w.heap.modify c _)[c]? = _
  rw [Array.getElem?_modify, if_pos rfl, h']
  rfl

theorem Cur.drew {w : World} {c p off : Nat} {s : ByteArray} (h : Cur w c s p off) : Cur w.drew c s p off := h

theorem Cur.lt {w : World} {c p off : Nat} {s : ByteArray} (h : Cur w c s p off) : c < w.heap.size := Blk.lt h

theorem Cur.below {w w' : World} {c p off : Nat} {s : ByteArray} (h : Cur w c s p off) (hb : Below w.heap.size w w') : Cur w' c s p off := Blk.kept h hb

theorem grownC (w : World) (c i : Nat) (v : Value) : w.grownBy (w.setCell ⟨c, i, none⟩ v) (some c) :=
  ⟨rfl, rfl, rfl, by simp [World.setCell], fun k _ hne => Below.heap_setCell _ _ _ _ (by intro e; exact hne (by rw [e]))⟩

theorem cutT (s : ByteArray) (p n : Nat) : s.extract p (p + n) = ⟨((s.data.toList.drop p).take n).toArray⟩ := by
  apply ByteArray.ext
  apply Array.toList_inj.1
  rw [extract_list]
  simp

theorem eat_ok {w : World} {c p off : Nat} {s : ByteArray} (h : Cur w c s p off) (n : Nat) (hn : p + n ≤ s.size) (hb : off + s.size ≤ 281474976710656) :
    Calls Tryz.prog 31 #[.pointer (some ⟨c, 0, none⟩), .int .i64 n] w fun r w' => r = .returned (.string ⟨((s.data.toList.drop p).take n).toArray⟩) ∧ Cur w' c s (p + n) off ∧ w.grownBy w' (some c) := by
  have c0 := h.cv 0 (.string s) rfl
  have c1 := h.cv 1 (.int .i64 p) rfl
  have z1 := h.fz 1
  have hd : decide ((s.size : Int) - p < n) = false := decide_eq_false (by omega)
  have HC := Lib.hid (cutT s p n)
  have HS := Lib.hid (h.set ((p + n : Nat) : Int))
  have HG := Lib.hid (grownC w c 1 (.int .i64 ((p + n : Nat) : Int)))
  clear h
  rw [← HC.out]
  go_enter Tryz.func31, Tryz.ntmps31
  go_wp2
  go_region
  go_wp2
  go_region
  go_wp2
  go_ret
  exact ⟨rfl, HS.out, HG.out.os, HG.out.tape, HG.out.output, HG.out.size, HG.out.block⟩

theorem eat_bad {w : World} {c p off : Nat} {s : ByteArray} (h : Cur w c s p off) (n : Nat) (hn : ¬ p + n ≤ s.size) (hp : p ≤ s.size) (hn2 : n ≤ 1000000) (hb : off + s.size ≤ 281474976710656) :
    Calls Tryz.prog 31 #[.pointer (some ⟨c, 0, none⟩), .int .i64 n] w fun r w' => r = .panicked (Thrown 7 (off + p)) ∧ Below w.heap.size w w' := by
  have c0 := h.cv 0 (.string s) rfl
  have c1 := h.cv 1 (.int .i64 p) rfl
  have hd : decide ((s.size : Int) - p < n) = true := decide_eq_true (by omega)
  have hbl : Below w.heap.size w w := Below.refl _ _
  have HD : Cur w.drew c s p off := h
  clear h
  go_enter Tryz.func31, Tryz.ntmps31
  go_wp2
  go_region
  go_wp2_with fail
  refine (throw_any HD 7 p (by omega) (by omega)).mono ?_
  rintro e w2 ⟨rfl, rfl⟩
  go_wp2
  exact ⟨rfl, rfl, hbl.os, hbl.tape, hbl.output, hbl.size, hbl.block⟩

set_option maxHeartbeats 1000000 in
theorem cnum_ok {w : World} {c p off : Nat} {s : ByteArray} (h : Cur w c s p off) (n : Nat) (hn7 : n ≤ 7) (hn : p + n ≤ s.size) (hb : off + s.size ≤ 281474976710656) :
    Calls Tryz.prog 28 #[.pointer (some ⟨c, 0, none⟩), .int .i64 n] w fun r w' => r = .returned (.int .i64 (beN ((s.data.toList.drop p).take n))) ∧ Cur w' c s (p + n) off ∧ w.grownBy w' (some c) := by
  have hLn : ((s.data.toList.drop p).take n).length = n := by rw [List.length_take, List.length_drop]; simp; omega
  have HE : Hid (Calls Tryz.prog 31 #[.pointer (some ⟨c, 0, none⟩), .int .i64 n] w fun r w' => r = .returned (.string ⟨((s.data.toList.drop p).take n).toArray⟩) ∧ Cur w' c s (p + n) off ∧ w.grownBy w' (some c)) := eat_ok h n hn hb
  clear h hn hb
  generalize ((s.data.toList.drop p).take n) = t at *
  go_enter Tryz.func28, Tryz.ntmps28
  go_wp2_with fail
  refine HE.out.mono ?_
  rintro e w' ⟨rfl, hr, hg⟩
  have hcv := fun W => run_bytes_of_string (P := Tryz.prog) W 9 145 5 ⟨t.toArray⟩ Tryz.underlying9 Tryz.underlying145 Tryz.underlying5
  have hsz : (⟨t.toArray⟩ : ByteArray).size = n := by simp [ByteArray.size, hLn]
  go_wp2
  have hB := byteRow_new w' ⟨t.toArray⟩ (grownCap w' n 0 5) 5
  have hR : Cur ((w'.alloc (Obj.cells (bytesRow ⟨t.toArray⟩ (grownCap w' n 0 5)) 5 ((bytesRow ⟨t.toArray⟩ (grownCap w' n 0 5)).size, (bytesRow ⟨t.toArray⟩ (grownCap w' n 0 5)).size + 1))).drew) c s (p + n) off := Blk.alloc hr _
  have hG : w.grownBy ((w'.alloc (Obj.cells (bytesRow ⟨t.toArray⟩ (grownCap w' n 0 5)) 5 ((bytesRow ⟨t.toArray⟩ (grownCap w' n 0 5)).size, (bytesRow ⟨t.toArray⟩ (grownCap w' n 0 5)).size + 1))).drew) (some c) := by
    have k2 := grownBy_trans hg (World.grownBy_alloc w' (Obj.cells (bytesRow ⟨t.toArray⟩ (grownCap w' n 0 5)) 5 ((bytesRow ⟨t.toArray⟩ (grownCap w' n 0 5)).size, (bytesRow ⟨t.toArray⟩ (grownCap w' n 0 5)).size + 1)) (some c))
    exact ⟨k2.os, k2.tape, k2.output, k2.size, k2.block⟩
  have HL := Lib.hid hLn
  clear hLn hcv hsz hr hg
  generalize ((w'.alloc (Obj.cells (bytesRow ⟨t.toArray⟩ (grownCap w' n 0 5)) 5 ((bytesRow ⟨t.toArray⟩ (grownCap w' n 0 5)).size, (bytesRow ⟨t.toArray⟩ (grownCap w' n 0 5)).size + 1))).drew) = W1 at *
  have hB' : ByteRow W1 w'.heap.size t := hB
  clear hB
  go_loop [5, 13] (fun x i => ∃ k : Nat, k ≤ n ∧ i = .int .i64 k ∧ x = .int .i64 (beN (t.take k))) (fun _ i => n - (intOf i).toNat)
  case atStart => exact ⟨0, by omega, rfl, rfl⟩
  case round =>
    obtain ⟨k, hk, rfl, rfl⟩ := hrel
    by_cases hlt : k < n
    · have hcell := hB' k (t[k]'(by rw [HL.out]; exact hlt)) (List.getElem?_eq_getElem _)
      have hX : beN (t.take k) < 281474976710656 := by
        have h := beN_lt (t.take k)
        have hl : (t.take k).length = k := by rw [List.length_take, HL.out]; omega
        rw [hl] at h
        have h7 : 256 ^ k ≤ 256 ^ 6 := Nat.pow_le_pow_right (by omega) (by omega)
        omega
      have HN := Lib.hid (take_snoc t k (by rw [HL.out]; exact hlt))
      have hb8 := (t[k]'(by rw [HL.out]; exact hlt)).toNat_lt
      generalize (t[k]'(by rw [HL.out]; exact hlt)) = b at *
      have q1 : (0 : Int) ≤ (beN (t.take k) : Int) := by omega
      have q2 : (beN (t.take k) : Int) < 281474976710656 := by omega
      have q3 : (0 : Int) ≤ (b.toNat : Int) := by omega
      have q4 : (b.toNat : Int) < 256 := by omega
      clear hX hb8
      go_wp2
      go_round
      case rel => exact ⟨k + 1, by omega, by go_num, by rw [HN.out, beN_snoc]; simp⟩
      case measure => simp [intOf]; omega
    · obtain rfl : k = n := by omega
      have HK := Lib.hid (List.take_of_length_le (l := t) (i := k) (by rw [HL.out]; omega))
      go_wp2
      go_ret
      exact ⟨by rw [HK.out]; rfl, hR, hG⟩

/-- Missing bytes are missing for a number, too. -/
theorem cnum_bad {w : World} {c p off : Nat} {s : ByteArray} (h : Cur w c s p off) (n : Nat) (hn : ¬ p + n ≤ s.size) (hp : p ≤ s.size) (hn2 : n ≤ 1000000) (hb : off + s.size ≤ 281474976710656) :
    Calls Tryz.prog 28 #[.pointer (some ⟨c, 0, none⟩), .int .i64 n] w fun r w' => r = .panicked (Thrown 7 (off + p)) ∧ Below w.heap.size w w' := by
  have HE : Hid (Calls Tryz.prog 31 #[.pointer (some ⟨c, 0, none⟩), .int .i64 n] w fun r w' => r = .panicked (Thrown 7 (off + p)) ∧ Below w.heap.size w w') := eat_bad h n hn hp hn2 hb
  clear h hn hb
  go_enter Tryz.func28, Tryz.ntmps28
  go_wp2_with fail
  refine HE.out.mono ?_
  rintro e w' ⟨rfl, hb2⟩
  go_wp2
  exact ⟨rfl, rfl, hb2⟩







theorem Tryz.addrZero : (Tryz.prog.info? 42).map (·.zero) = some (some (.agg (c6 z6))) := by kernel_rfl





def curAt (w : World) (c : Nat) : Nat := match w.cell? ⟨c, 1, none⟩ with | some (.int _ n) => n.toNat | _ => 0

theorem Cur.at {w : World} {c p off : Nat} {s : ByteArray} (h : Cur w c s p off) : curAt w c = p := by
  unfold curAt
  rw [h.cv 1 (.int .i64 p) rfl]
  simp


end Go.Proofs.YtocgnbbnaamjjaaGreatDoor

namespace Go.Proofs.YtocgnbbnaamjjaaGreatDoor
open Go.RowKit
attribute [local go_sem ↓] Go.wp_at_zero Go.wp_at_succ
set_option linter.unusedSimpArgs false
set_option linter.unusedVariables false
set_option maxRecDepth 100000

/-- A Fault's cells. -/
def ftC (e pl : Int) : Array Value := #[.int .i64 e, .int .i64 pl]

theorem Tryz.ftZero : (Tryz.prog.info? 32).map (·.zero) = some (some (.agg (ftC 0 0))) := by kernel_rfl

theorem good_any (w : World) : Calls Tryz.prog 15 #[] w fun e w' => e = .returned (.agg (ftC 0 (-1))) ∧ Below w.heap.size w w' := by
  have HZ := Blk.new w 32 (ftC 0 0)
  have hb0 : Below w.heap.size w (w.alloc (.cells (ftC 0 0) 32)) := (Below.refl _ _).alloc (Nat.le_refl _) _
  go_enter Tryz.func15, Tryz.ntmps15
  go_wp2_with (first | (refine alloc_blk 32 (ftC 0 0) (by rfl) rfl Tryz.ftZero ?_) | (refine build_blk (t := 32) (ftC 0 (-1)) (by rfl) rfl (by kernel_rfl) ?_) | (refine store_blk (k := 0) 32 (.agg (ftC 0 (-1))) (ftC 0 (-1)) (by rfl) rfl rfl rfl HZ (by kernel_rfl) (by exact Nat.le_refl 2) rfl rfl (fun w2 H2 b2 g2 => ?_)))
  exact bodyPost_ret (results_blk rfl rfl H2 (by kernel_rfl) (by kernel_rfl)) rfl ⟨rfl, hb0.trans b2⟩

theorem is_any (e pl : Int) (w : World) : Calls Tryz.prog 9 #[.agg (ftC e pl)] w fun r w' => r = .returned (.bool (e == 0)) ∧ Below w.heap.size w w' := by
  have hb0 : Below w.heap.size w (w.alloc (.cells (ftC e pl) 32)) := (Below.refl _ _).alloc (Nat.le_refl _) _
  unfold ftC at *
  go_enter Tryz.func9, Tryz.ntmps9
  go_wp2
  go_ret
  exact ⟨rfl, hb0⟩

theorem Tryz.isThrown (v : Value) (w : World) : (Instr.typeAssert (.iface 143 v) 20 143 true).run Tryz.prog w = .ok (.tuple #[v, .bool true]) w := by kernel_rfl

theorem Tryz.thZero : (Tryz.prog.info? 143).map (·.zero) = some (some (.agg (ftC 0 0))) := by kernel_rfl

/-- The rest of a deferred call, where nothing more is recovered: its post behind a name. -/
theorem wpS_rest {P : Program} {c : Code} {Q : Exit → Act → List Frame → World → Prop} {a : Act} {cs : List Frame} {w : World} (T : Array Value) (hT : a = { tmps := T, defers := [] }) (h : ∀ Q' : Exit → Act → World → Prop, Hid (∀ e a' w', Q e a' cs w' → Q' e a' w') → c.wp P Q' { tmps := T, defers := [] } w) : c.wpS P Q a cs w := by
  subst hT
  exact wpS_of_wp (h _ (Lib.hid fun _ _ _ x => x))

/-- caught, where nothing was thrown. -/
theorem caught_idle (p : Addr) (w : World) :
    CallsD Tryz.prog 27 #[.pointer (some p)] .returning w fun e u' w' => e = .returned (.tuple #[]) ∧ u' = .returning ∧ w' = w := by
  have hnn : ∀ w : World, (binOp BinOp.neq 20 .nilIface .nilIface).run Tryz.prog w = .ok (.bool false) w := fun _ => by kernel_rfl
  refine callsD_of_wpS Tryz.func27 rfl fun c₀ cs hu => ?_
  apply wpS_seq
  apply wpS_region
  simp [wpOpsS, go_sem, recoverD, hu, Tryz.ntmps27, Exit.thenS]
  refine wpS_rest #[.pointer (some p), undef, .nilIface, undef, undef, .nilIface, undef, undef, undef, undef, undef, undef, undef, undef, undef, undef, undef, undef, undef, undef] (by kernel_rfl) fun Q' hQ' => ?_
  go_wp2
  refine hQ'.out _ _ _ ?_
  cases c₀
  simp_all [bodyPostS, results, Tryz.results27]

/-- caught, where something was thrown: it is laid. -/
theorem caught_thrown (B : Nat) (e0 pl0 e pl : Int) (older : List PanicEntry) (w : World) (hB : Blk w B 32 (ftC e0 pl0)) :
    CallsD Tryz.prog 27 #[.pointer (some ⟨B, 0, none⟩)] (.panicking ({ v := Thr e pl, recovered := false } :: older)) w fun r u' w' => r = .returned (.tuple #[]) ∧ u' = .panicking ({ v := Thr e pl, recovered := true } :: older) ∧ Blk w' B 32 (ftC e pl) ∧ w.grownBy w' (some B) := by
  have hta := Tryz.isThrown
  have hnn : ∀ w : World, (binOp BinOp.neq 20 (.iface 143 (.agg #[.int .i64 e, .int .i64 pl])) .nilIface).run Tryz.prog w = .ok (.bool true) w := fun _ => by kernel_rfl
  have HB2 := hB.alloc (.cells (ftC 0 0) 143)
  have HT := Blk.new w 143 (ftC 0 0)
  have hg0 := World.grownBy_alloc w (.cells (ftC 0 0) 143) (some B)
  have hlt := hB.lt
  refine callsD_of_wpS Tryz.func27 rfl fun c₀ cs hu => ?_
  unfold Thr at *
  apply wpS_seq
  apply wpS_region
  simp [wpOpsS, go_sem, recoverD, hu, Tryz.ntmps27, Exit.thenS]
  refine wpS_rest #[.pointer (some ⟨B, 0, none⟩), undef, .iface 143 (.agg #[.int .i64 e, .int .i64 pl]), undef, undef, .iface 143 (.agg #[.int .i64 e, .int .i64 pl]), undef, undef, undef, undef, undef, undef, undef, undef, undef, undef, undef, undef, undef, undef] (by kernel_rfl) fun Q' hQ' => ?_
  go_upto_region 5 with (first | (refine alloc_blk 143 (ftC 0 0) (by rfl) rfl Tryz.thZero ?_) | (refine store_blk (k := 0) 143 (.agg (ftC e pl)) (ftC e pl) (by rfl) rfl rfl rfl HT (by kernel_rfl) (by exact Nat.le_refl 2) rfl rfl (fun w2 HT2 b2 g2 => ?_)))
  have HB3 := HB2.grown g2 (by simp; omega)
  go_wp2_with (first | (refine load_blk (k := 0) 32 (ftC e pl) (by rfl) rfl rfl HT2 (by kernel_rfl) (by kernel_rfl) rfl ?_) | (refine store_blk (k := 0) 32 (.agg (ftC e pl)) (ftC e pl) (by rfl) rfl rfl rfl HB3 (by kernel_rfl) (by exact Nat.le_refl 2) rfl rfl (fun w3 HB4 b3 g3 => ?_)))
  have hG : w.grownBy w3 (some B) := by
    have h1 : w.grownBy w2 (some B) := ⟨g2.os, g2.tape, g2.output, Nat.le_trans hg0.size g2.size, fun k hk hne => (g2.block k (by simp; omega) (by simp; omega)).trans (hg0.block k hk hne)⟩
    exact grownBy_trans h1 g3
  refine hQ'.out _ _ _ ?_
  cases c₀
  simp_all [bodyPostS, results, Tryz.results27]

end Go.Proofs.YtocgnbbnaamjjaaGreatDoor

namespace Go.Proofs.YtocgnbbnaamjjaaGreatDoor
open Go.RowKit
attribute [local go_sem ↓] Go.wp_at_zero Go.wp_at_succ
set_option linter.unusedSimpArgs false
set_option linter.unusedVariables false
set_option maxRecDepth 100000

theorem crest_ok {w : World} {c p off : Nat} {s : ByteArray} (h : Cur w c s p off) (hp : p ≤ s.size) (hb : off + s.size ≤ 281474976710656) :
    Calls Tryz.prog 33 #[.pointer (some ⟨c, 0, none⟩)] w fun r w' => r = .returned (.string ⟨(s.data.toList.drop p).toArray⟩) ∧ Cur w' c s s.size off ∧ w.grownBy w' (some c) := by
  have c0 := h.cv 0 (.string s) rfl
  have c1 := h.cv 1 (.int .i64 p) rfl
  have hn : (s.size : Int) - (p : Int) = ((s.size - p : Nat) : Int) := by omega
  have he : (s.data.toList.drop p).take (s.size - p) = s.data.toList.drop p := List.take_of_length_le (by rw [List.length_drop]; simp)
  have HE := Lib.hid (fun (W : World) (h : Cur W c s p off) => eat_ok h (s.size - p) (by omega) hb)
  rw [he, show p + (s.size - p) = s.size by omega] at HE
  have hwn : IntKind.i64.wrap ((s.size - p : Nat) : Int) = ((s.size - p : Nat) : Int) := by rw [IntKind.wrap_i64] <;> omega
  generalize s.size - p = n at *
  have HD : Cur w.drew c s p off := h
  have HH := Lib.hid h
  clear he h hp
  go_enter Tryz.func33, Tryz.ntmps33
  go_upto_region 1 with (fail)
  refine wp_region_noPanic ?_
  refine wp_region_held_drew (S := fun w' => w'.cell? ⟨c, 0, none⟩ = some (.string s)) (by kernel_rfl) ?_ (fun hHeld => ?_)
  · exact c0
  refine wpAnyH_take (i := 0) (v := ?_) rfl (by kernel_rfl) (by kernel_rfl) (by kernel_rfl) (fun _ _ _ h => h) (Or.inl ⟨by rfl, ?_⟩) (by assumption) ?_
  rotate_left
  · (intro w hSw; (try dsimp only at hSw); go_simp; (try with_reducible rfl))
  (try simp only [Act.put, List.getElem_toArray, List.getElem_cons_zero, List.getElem_cons_succ, List.setIfInBounds_toArray, List.set_cons_zero, List.set_cons_succ])
  refine wpAnyH_take (i := 1) (v := ?_) rfl (by kernel_rfl) (by kernel_rfl) (by kernel_rfl) (fun _ _ _ h => h) (Or.inl ⟨by rfl, ?_⟩) (by assumption) ?_
  rotate_left
  · (intro w hSw; (try dsimp only at hSw); go_simp; (try with_reducible rfl))
  (try simp only [Act.put, List.getElem_toArray, List.getElem_cons_zero, List.getElem_cons_succ, List.setIfInBounds_toArray, List.set_cons_zero, List.set_cons_succ])
  refine wpAnyH_take (i := 2) (v := ?_) rfl (by kernel_rfl) (by kernel_rfl) (by kernel_rfl) (fun _ _ _ h => h) (Or.inl ⟨by rfl, ?_⟩) (by assumption) ?_
  rotate_left
  · (intro w hSw; (try dsimp only at hSw); go_simp; (try with_reducible rfl))
  (try simp only [Act.put, List.getElem_toArray, List.getElem_cons_zero, List.getElem_cons_succ, List.setIfInBounds_toArray, List.set_cons_zero, List.set_cons_succ])
  refine wpAnyH_take (i := 3) (v := ?_) rfl (by kernel_rfl) (by kernel_rfl) (by kernel_rfl) (fun _ _ _ h => h) (Or.inl ⟨by rfl, ?_⟩) (by assumption) ?_
  rotate_left
  · (intro w hSw; (try dsimp only at hSw); go_simp; (try with_reducible rfl))
  (try simp only [Act.put, List.getElem_toArray, List.getElem_cons_zero, List.getElem_cons_succ, List.setIfInBounds_toArray, List.set_cons_zero, List.set_cons_succ])
  refine wpAnyH_take (i := 4) (v := .string s) rfl (by kernel_rfl) (by kernel_rfl) (by kernel_rfl) (fun _ _ _ h => h) (Or.inl ⟨by rfl, fun w hSw => by (try dsimp only at hSw); go_simp⟩) (by assumption) ?_
  (try simp only [Act.put, List.getElem_toArray, List.getElem_cons_zero, List.getElem_cons_succ, List.setIfInBounds_toArray, List.set_cons_zero, List.set_cons_succ])
  refine wpAnyH_take (i := 5) (v := ?_) rfl (by kernel_rfl) (by kernel_rfl) (by kernel_rfl) (fun _ _ _ h => h) (Or.inl ⟨by rfl, ?_⟩) (by assumption) ?_
  rotate_left
  · (intro w hSw; (try dsimp only at hSw); go_simp; (try with_reducible rfl))
  (try simp only [Act.put, List.getElem_toArray, List.getElem_cons_zero, List.getElem_cons_succ, List.setIfInBounds_toArray, List.set_cons_zero, List.set_cons_succ])
  refine wpAnyH_take (i := 6) (v := ?_) rfl (by kernel_rfl) (by kernel_rfl) (by kernel_rfl) (fun _ _ _ h => h) (Or.inl ⟨by rfl, ?_⟩) (by assumption) ?_
  rotate_left
  · (intro w hSw; (try dsimp only at hSw); go_simp; (try with_reducible rfl))
  (try simp only [Act.put, List.getElem_toArray, List.getElem_cons_zero, List.getElem_cons_succ, List.setIfInBounds_toArray, List.set_cons_zero, List.set_cons_succ])
  refine wpAnyH_take (i := 7) (v := ?_) rfl (by kernel_rfl) (by kernel_rfl) (by kernel_rfl) (fun _ _ _ h => h) (Or.inl ⟨by rfl, ?_⟩) (by assumption) ?_
  rotate_left
  · (intro w hSw; (try dsimp only at hSw); go_simp; (try with_reducible rfl))
  (try simp only [Act.put, List.getElem_toArray, List.getElem_cons_zero, List.getElem_cons_succ, List.setIfInBounds_toArray, List.set_cons_zero, List.set_cons_succ])
  refine wpAnyH_take (i := 8) (v := ?_) rfl (by kernel_rfl) (by kernel_rfl) (by kernel_rfl) (fun _ _ _ h => h) (Or.inl ⟨by rfl, ?_⟩) (by assumption) ?_
  rotate_left
  · (intro w hSw; (try dsimp only at hSw); go_simp; (try with_reducible rfl))
  (try simp only [Act.put, List.getElem_toArray, List.getElem_cons_zero, List.getElem_cons_succ, List.setIfInBounds_toArray, List.set_cons_zero, List.set_cons_succ])
  refine wpAnyH_ready (rs := [9]) (by kernel_rfl) (by simp) ?_
  refine AllReadyH.cons rfl (fun K hK => ?_) AllReadyH.nil
  have c1d : w.drew.cell? ⟨c, 1, none⟩ = some (.int .i64 (p : Nat)) := c1
  simp only [List.getElem_toArray, List.getElem_cons_zero, List.getElem_cons_succ]
  go_simp
  refine hK.out _ _ ?_ (fun hHeld => ?_)
  · exact c0
  clear hK K
  (try simp only [Act.put, List.getElem_toArray, List.getElem_cons_zero, List.getElem_cons_succ, List.setIfInBounds_toArray, List.set_cons_zero, List.set_cons_succ])
  refine wpAnyH_take (i := 10) (v := ?_) rfl (by kernel_rfl) (by kernel_rfl) (by kernel_rfl) (fun _ _ _ h => h) (Or.inl ⟨by rfl, ?_⟩) (by assumption) ?_
  rotate_left
  · (intro w hSw; (try dsimp only at hSw); go_simp; (try with_reducible rfl))
  (try simp only [Act.put, List.getElem_toArray, List.getElem_cons_zero, List.getElem_cons_succ, List.setIfInBounds_toArray, List.set_cons_zero, List.set_cons_succ])
  refine wpAnyH_ready (rs := [11]) (by kernel_rfl) (by simp) ?_
  refine AllReadyH.cons rfl (fun K hK => ?_) AllReadyH.nil
  simp only [List.getElem_toArray, List.getElem_cons_zero, List.getElem_cons_succ]
  go_simp
  with_reducible refine (HE.out w.drew HD).mono ?_
  rintro e w2 ⟨rfl, HU2, g2⟩
  have c2 := HU2.cv 0 (.string s) rfl
  refine hK.out _ _ ?_ (fun hHeld => ?_)
  · exact c2
  clear hK K
  (try simp only [Act.put, List.getElem_toArray, List.getElem_cons_zero, List.getElem_cons_succ, List.setIfInBounds_toArray, List.set_cons_zero, List.set_cons_succ])
  refine wpAnyH_take (i := 12) (v := ?_) rfl (by kernel_rfl) (by kernel_rfl) (by kernel_rfl) (fun _ _ _ h => h) (Or.inl ⟨by rfl, ?_⟩) (by assumption) ?_
  rotate_left
  · (intro w hSw; (try dsimp only at hSw); go_simp; (try with_reducible rfl))
  (try simp only [Act.put, List.getElem_toArray, List.getElem_cons_zero, List.getElem_cons_succ, List.setIfInBounds_toArray, List.set_cons_zero, List.set_cons_succ])
  refine wpAnyH_done (by kernel_rfl) ?_ _
  refine NoPanic.normal ?_
  go_wp2
  go_ret
  exact ⟨rfl, HU2, ⟨g2.os, g2.tape, g2.output, g2.size, g2.block⟩⟩

theorem OwnSt.one {w : World} {base G : Nat} {y : ByteArray} (h : Blk w G 9 (stC y)) (hb : base ≤ G) : OwnSt w base (.slice (some ⟨G, 0, none⟩) 1 1) [y] := Or.inr ⟨by simp, G, 1, rfl, rfl, Or.inr ⟨G, 1, stC y, rfl, hb, h, Nat.le_refl 1, by decide, rfl, rfl⟩⟩

theorem OwnCp.one {w : World} {base G : Nat} {y : Cp} (h : Blk w G 86 (cpC y)) (hb : base ≤ G) : OwnCp w base (.slice (some ⟨G, 0, none⟩) 1 1) [y] := Or.inr ⟨by simp, G, 1, rfl, rfl, Or.inr ⟨G, 1, cpC y, rfl, hb, h, Nat.le_refl 1, by decide, rfl, rfl⟩⟩

theorem OwnMg.one {w : World} {base G : Nat} {y : Mg} (h : Blk w G 89 (mgC y)) (hb : base ≤ G) : OwnMg w base (.slice (some ⟨G, 0, none⟩) 1 1) [y] := Or.inr ⟨by simp, G, 1, rfl, rfl, Or.inr ⟨G, 1, mgC y, rfl, hb, h, Nat.le_refl 1, by decide, rfl, rfl⟩⟩

theorem OwnOg.one {w : World} {base G : Nat} {y : Og} (h : Blk w G 111 (ogC y)) (hb : base ≤ G) : OwnOg w base (.slice (some ⟨G, 0, none⟩) 1 1) [y] := Or.inr ⟨by simp, G, 1, rfl, rfl, Or.inr ⟨G, 1, ogC y, rfl, hb, h, Nat.le_refl 1, by decide, rfl, rfl⟩⟩

/-- What parts tells: a form, and with it the parts. -/
def PtR (F L D : Nat) (k : Int) (s : ByteArray) (w : World) (e : Ending) (w' : World) : Prop := e = .returned (.tuple #[]) ∧ Below D w w' ∧ ((formK k s.data.toList = true ∧ Blk w' F 32 (ftC 0 (-1)) ∧ LdAc w' D L (addLd zLd ⟨k, s⟩)) ∨ (formK k s.data.toList = false ∧ (∃ e pl, e ≠ 0 ∧ Blk w' F 32 (ftC e pl)) ∧ ∃ y, LdAc w' D L y))

theorem pt_bad {k : Int} {s : ByteArray} {tmps : Array Value} {F L D : Nat} {w0 w : World} {e pl : Int} {y : Ld} (he : e ≠ 0) (HF : Blk w F 32 (ftC 0 (-1))) (HL : LdAc w D L y) (hf : formK k s.data.toList = false) (hb : Below D w0 w) (hD : D ≤ F) (hDw : D ≤ w.heap.size) :
    Leaves Tryz.prog Tryz.f32 tmps (PtR F L D k s w0) [{ target := .fn (.func 27) #[], args := #[.pointer (some ⟨F, 0, none⟩)] }] (.panicking (Thrown e pl)) w := by
  refine leaves_cons (f := 27) (args := #[.pointer (some ⟨F, 0, none⟩)]) (by simp [Thrown]) (by simp [go_sem]) ?_
  refine (caught_thrown F 0 (-1) e pl [] w HF).mono ?_
  rintro r u' w2 ⟨rfl, rfl, HF2, g2⟩
  have hrs : (Tryz.f32).results = #[] := rfl
  exact ⟨_, by simp [results, hrs], rfl, hb.grown g2 hDw (fun k e => by cases e; exact hD), Or.inr ⟨hf, ⟨e, pl, he, HF2⟩, y, HL.otherT HF (by decide) g2⟩⟩

theorem pt_ok {k : Int} {s : ByteArray} {tmps : Array Value} {F L D : Nat} {w0 w : World} (HF : Blk w F 32 (ftC 0 (-1))) (HL : LdAc w D L (addLd zLd ⟨k, s⟩)) (hf : formK k s.data.toList = true) (hb : Below D w0 w) (hD : D ≤ F) (hDw : D ≤ w.heap.size) :
    Leaves Tryz.prog Tryz.f32 tmps (PtR F L D k s w0) [{ target := .fn (.func 27) #[], args := #[.pointer (some ⟨F, 0, none⟩)] }] .returning w := by
  refine leaves_cons (f := 27) (args := #[.pointer (some ⟨F, 0, none⟩)]) (by simp) (by simp [go_sem]) ?_
  refine (caught_idle ⟨F, 0, none⟩ w).mono ?_
  rintro r u' w2 ⟨rfl, rfl, rfl⟩
  have hrs : (Tryz.f32).results = #[] := rfl
  exact ⟨_, by simp [results, hrs], rfl, hb, Or.inl ⟨hf, HF, HL⟩⟩

end Go.Proofs.YtocgnbbnaamjjaaGreatDoor

namespace Go.Proofs.YtocgnbbnaamjjaaGreatDoor
open Go.RowKit
attribute [local go_sem ↓] Go.wp_at_zero Go.wp_at_succ
set_option linter.unusedSimpArgs false
set_option linter.unusedVariables false
set_option maxRecDepth 100000

set_option maxHeartbeats 3200000 in
theorem pt_n1 {F T L D : Nat} {s : ByteArray} (w : World) (HF : Blk w F 32 (ftC 0 (-1))) (HT : Blk w T 80 (tlC ⟨1, s⟩)) (HL : Blk w L 29 (ldC zLd zLdA)) (hs : s.size ≤ 100000) (hDF : D ≤ F) (hDL : D ≤ L) :
    Calls Tryz.prog 32 #[.pointer (some ⟨F, 0, none⟩), .pointer (some ⟨T, 0, none⟩), .pointer (some ⟨L, 0, none⟩)] w (PtR F L D 1 s w) := by
  have hls : s.data.toList.length = s.size := by simp
  have hDw : D ≤ w.heap.size := by have := HF.lt; omega
  have cA := HT.cv 0 (.int .i64 1) rfl
  have cB := HT.cv 1 (.string s) rfl
  have HF1 := HF.alloc (.cells #[.string s, .int .i64 (0 : Nat), .int .i64 (0 : Nat)] 117)
  have HT1 := HT.alloc (.cells #[.string s, .int .i64 (0 : Nat), .int .i64 (0 : Nat)] 117)
  have HL1 := HL.alloc (.cells #[.string s, .int .i64 (0 : Nat), .int .i64 (0 : Nat)] 117)
  have HU1 : Cur (w.alloc (.cells #[.string s, .int .i64 (0 : Nat), .int .i64 (0 : Nat)] 117)) w.heap.size s 0 0 := Blk.new w 117 _
  have B1 : Below D w (w.alloc (.cells #[.string s, .int .i64 (0 : Nat), .int .i64 (0 : Nat)] 117)) := (Below.refl D w).alloc hDw _
  have hF := HF.lt
  have hT := HT.lt
  have hL := HL.lt
  have hFL : ¬ F = L := blk_ne HF HL (by decide)
  have hTL : ¬ T = L := blk_ne HT HL (by decide)
  clear HF HT HL
  go_enter_defers Tryz.func32, Tryz.ntmps32
  go_upto_region 2 with (refine build_blk (t := 117) #[.string s, .int .i64 (0 : Nat), .int .i64 (0 : Nat)] (by rfl) rfl (by kernel_rfl) ?_)
  generalize w.alloc (.cells #[.string s, .int .i64 0, .int .i64 0] 117) = w1 at *
  generalize w.heap.size = c at *
  have ck := HT1.cv 0 (.int .i64 1) rfl
  clear cA cB
  have HUlt1 := HU1.lt
  go_wp2_with fail
  by_cases h0 : ¬ (0 + 1 ≤ s.size)
  · refine (cnum_bad HU1 1 h0 (by omega) (by decide) (by omega)).mono ?_
    rintro e wb ⟨rfl, bb⟩
    go_wp2
    exact pt_bad (by decide) (HF1.kept bb) (LdAc.zero (HL1.kept bb)) (by rw [formK1]; exact decide_eq_false (by omega)) (B1.trans (bb.mono (by omega))) hDF (by have := bb.size; omega)
  replace h0 : 0 + 1 ≤ s.size := by omega
  have N0 := cnum_ok HU1 1 (by decide) h0 (by omega)
  obtain ⟨v0, hv0⟩ : ∃ v0, v0 = beN ((s.data.toList.drop (0)).take 1) := ⟨_, rfl⟩
  rw [← hv0] at N0
  replace N0 := Lib.hid N0
  replace hv0 := Lib.hid hv0
  refine N0.out.mono ?_
  clear N0
  rintro e w2 ⟨rfl, HU2, g⟩
  have HF2 := HF1.grown g (by simp; omega)
  have HT2 := HT1.grown g (by simp; omega)
  have HL2 := HL1.grown g (by simp; omega)
  have B2 : Below D w w2 := B1.grown g (Nat.le_trans hDw (Nat.le_of_lt (Nat.lt_of_lt_of_le HUlt1 (Nat.le_refl _)))) (fun k e => by cases e; omega)
  clear HF1 HT1 HL1 B1 g
  have HUlt2 := HU2.lt
  go_wp2_with fail
  have N1 := crest_ok HU2 (by omega) (by omega)
  obtain ⟨v1, hv1⟩ : ∃ v1, v1 = (⟨(s.data.toList.drop (0 + 1)).toArray⟩ : ByteArray) := ⟨_, rfl⟩
  rw [← hv1] at N1
  replace N1 := Lib.hid N1
  replace hv1 := Lib.hid hv1
  refine N1.out.mono ?_
  clear N1
  rintro e w3 ⟨rfl, HU3, g⟩
  have HF3 := HF2.grown g (by simp; omega)
  have HT3 := HT2.grown g (by simp; omega)
  have HL3 := HL2.grown g (by simp; omega)
  have B3 : Below D w w3 := B2.grown g (Nat.le_trans hDw (Nat.le_of_lt (Nat.lt_of_lt_of_le HUlt2 (Nat.le_refl _)))) (fun k e => by cases e; omega)
  clear HF2 HT2 HL2 B2 g
  go_wp2_with (first
    | (refine build_blk (t := 23) (nmC ⟨(v0 : Nat), v1⟩) (by rfl) rfl (by kernel_rfl) ?_)
    | (refine store_blk (k := 0) 23 (.agg (nmC ⟨(v0 : Nat), v1⟩)) (ldC { zLd with ch := ⟨(v0 : Nat), v1⟩ } zLdA) (by rfl) rfl rfl rfl HL3 (by kernel_rfl) (show (0 + 2 : Nat) ≤ 11 by decide) (by rfl) rfl ?_; intro w4 HL4 bq4 gq4; have HF4 := HF3.grown gq4 (by simp; exact hFL); have HT4 := HT3.grown gq4 (by simp; exact hTL); have HU4 : Cur w4 c s _ 0 := Blk.grown HU3 gq4 (by simp; omega); have B4 : Below D w w4 := B3.trans (bq4.mono hDL)))
  clear HL3 HF3 HT3 HU3 B3
  have LA : LdAc w4 D L { zLd with ch := ⟨(v0 : Nat), v1⟩ } := ⟨zLdA, HL4, .nil _ _, .nil _ _, .nil _ _, .nil _ _, .nil _ _, .nil _ _⟩
  obtain ⟨P, hP⟩ : ∃ P, P = s.size := ⟨_, rfl⟩
  rw [← hP] at HU4
  have cP := HU4.cv 1 (.int .i64 (P : Nat)) rfl
  have cT := HT4.cv 1 (.string s) rfl
  have cI := HU4.lt
  go_upto_region 28 with (fail)
  refine wp_region_noPanic ?_
  refine wp_region_held_drew (S := fun w' => w'.cell? ⟨c, 1, none⟩ = some (.int .i64 (P : Nat)) ∧ w'.cell? ⟨T, 1, none⟩ = some (.string s)) (by kernel_rfl) ?_ (fun hHeld => ?_)
  · exact ⟨cP, cT⟩
  refine wpAnyH_take (i := 0) (v := ?_) rfl (by kernel_rfl) (by kernel_rfl) (by kernel_rfl) (fun _ _ _ h => h) (Or.inl ⟨by rfl, ?_⟩) (by assumption) ?_
  rotate_left
  · (intro w hSw; (try dsimp only at hSw); go_simp; (try with_reducible rfl))
  (try simp only [Act.put, List.getElem_toArray, List.getElem_cons_zero, List.getElem_cons_succ, List.setIfInBounds_toArray, List.set_cons_zero, List.set_cons_succ])
  refine wpAnyH_take (i := 1) (v := ?_) rfl (by kernel_rfl) (by kernel_rfl) (by kernel_rfl) (fun _ _ _ h => h) (Or.inl ⟨by rfl, ?_⟩) (by assumption) ?_
  rotate_left
  · (intro w hSw; (try dsimp only at hSw); go_simp; (try with_reducible rfl))
  (try simp only [Act.put, List.getElem_toArray, List.getElem_cons_zero, List.getElem_cons_succ, List.setIfInBounds_toArray, List.set_cons_zero, List.set_cons_succ])
  refine wpAnyH_take (i := 2) (v := ?_) rfl (by kernel_rfl) (by kernel_rfl) (by kernel_rfl) (fun _ _ _ h => h) (Or.inl ⟨by rfl, ?_⟩) (by assumption) ?_
  rotate_left
  · (intro w hSw; (try dsimp only at hSw); go_simp; (try with_reducible rfl))
  (try simp only [Act.put, List.getElem_toArray, List.getElem_cons_zero, List.getElem_cons_succ, List.setIfInBounds_toArray, List.set_cons_zero, List.set_cons_succ])
  refine wpAnyH_take (i := 3) (v := .int .i64 (P : Nat)) rfl (by kernel_rfl) (by kernel_rfl) (by kernel_rfl) (fun _ _ _ h => h) (Or.inl ⟨by rfl, fun w hSw => by have cc := hSw.1; (try dsimp only at cc); go_simp⟩) (by assumption) ?_
  (try simp only [Act.put, List.getElem_toArray, List.getElem_cons_zero, List.getElem_cons_succ, List.setIfInBounds_toArray, List.set_cons_zero, List.set_cons_succ])
  refine wpAnyH_take (i := 4) (v := ?_) rfl (by kernel_rfl) (by kernel_rfl) (by kernel_rfl) (fun _ _ _ h => h) (Or.inl ⟨by rfl, ?_⟩) (by assumption) ?_
  rotate_left
  · (intro w hSw; (try dsimp only at hSw); go_simp; (try with_reducible rfl))
  (try simp only [Act.put, List.getElem_toArray, List.getElem_cons_zero, List.getElem_cons_succ, List.setIfInBounds_toArray, List.set_cons_zero, List.set_cons_succ])
  refine wpAnyH_take (i := 5) (v := .string s) rfl (by kernel_rfl) (by kernel_rfl) (by kernel_rfl) (fun _ _ _ h => h) (Or.inl ⟨by rfl, fun w hSw => by have cc := hSw.2; (try dsimp only at cc); go_simp⟩) (by assumption) ?_
  (try simp only [Act.put, List.getElem_toArray, List.getElem_cons_zero, List.getElem_cons_succ, List.setIfInBounds_toArray, List.set_cons_zero, List.set_cons_succ])
  refine wpAnyH_take (i := 6) (v := ?_) rfl (by kernel_rfl) (by kernel_rfl) (by kernel_rfl) (fun _ _ _ h => h) (Or.inl ⟨by rfl, ?_⟩) (by assumption) ?_
  rotate_left
  · (intro w hSw; (try dsimp only at hSw); go_simp; (try with_reducible rfl))
  (try simp only [Act.put, List.getElem_toArray, List.getElem_cons_zero, List.getElem_cons_succ, List.setIfInBounds_toArray, List.set_cons_zero, List.set_cons_succ])
  refine wpAnyH_take (i := 7) (v := ?_) rfl (by kernel_rfl) (by kernel_rfl) (by kernel_rfl) (fun _ _ _ h => h) (Or.inl ⟨by rfl, ?_⟩) (by assumption) ?_
  rotate_left
  · (intro w hSw; (try dsimp only at hSw); go_simp; (try with_reducible rfl))
  (try simp only [Act.put, List.getElem_toArray, List.getElem_cons_zero, List.getElem_cons_succ, List.setIfInBounds_toArray, List.set_cons_zero, List.set_cons_succ])
  refine wpAnyH_done (by kernel_rfl) ?_ _
  refine NoPanic.normal ?_
  have HFd := HF4.drew
  have LAd := LA.drew
  have Bd := B4.drew
  have HUd := HU4.drew
  have hszd : D ≤ w4.drew.heap.size := by show D ≤ w4.heap.size; omega
  clear HF4 LA B4 HU4 cP cT cI HT4 HL4
  generalize w4.drew = wz at *
  by_cases hl : P < s.size
  · exact absurd hl (by omega)
  · have d1 : decide ((P : Int) < (s.size : Int)) = false := decide_eq_false (by omega)
    have d2 : decide (P < s.size) = false := decide_eq_false hl
    have hf : Hid (formK 1 s.data.toList = true) := (by show _ = _; rw [formK1]; exact decide_eq_true (by omega))
    have hy : Hid (({ zLd with ch := ⟨(v0 : Nat), v1⟩ } : Ld) = addLd zLd ⟨1, s⟩) := by
      show _ = _
      rw [addLd1, hv0.out, hv1.out]
      unfold nmOf
      rw [List.drop_zero]
    rw [hy.out] at LAd
    go_wp2
    exact pt_ok HFd LAd hf.out Bd hDF hszd

set_option maxHeartbeats 3200000 in
theorem pt_n2 {F T L D : Nat} {s : ByteArray} (w : World) (HF : Blk w F 32 (ftC 0 (-1))) (HT : Blk w T 80 (tlC ⟨2, s⟩)) (HL : Blk w L 29 (ldC zLd zLdA)) (hs : s.size ≤ 100000) (hDF : D ≤ F) (hDL : D ≤ L) :
    Calls Tryz.prog 32 #[.pointer (some ⟨F, 0, none⟩), .pointer (some ⟨T, 0, none⟩), .pointer (some ⟨L, 0, none⟩)] w (PtR F L D 2 s w) := by
  have hls : s.data.toList.length = s.size := by simp
  have hDw : D ≤ w.heap.size := by have := HF.lt; omega
  have cA := HT.cv 0 (.int .i64 2) rfl
  have cB := HT.cv 1 (.string s) rfl
  have HF1 := HF.alloc (.cells #[.string s, .int .i64 (0 : Nat), .int .i64 (0 : Nat)] 117)
  have HT1 := HT.alloc (.cells #[.string s, .int .i64 (0 : Nat), .int .i64 (0 : Nat)] 117)
  have HL1 := HL.alloc (.cells #[.string s, .int .i64 (0 : Nat), .int .i64 (0 : Nat)] 117)
  have HU1 : Cur (w.alloc (.cells #[.string s, .int .i64 (0 : Nat), .int .i64 (0 : Nat)] 117)) w.heap.size s 0 0 := Blk.new w 117 _
  have B1 : Below D w (w.alloc (.cells #[.string s, .int .i64 (0 : Nat), .int .i64 (0 : Nat)] 117)) := (Below.refl D w).alloc hDw _
  have hF := HF.lt
  have hT := HT.lt
  have hL := HL.lt
  have hFL : ¬ F = L := blk_ne HF HL (by decide)
  have hTL : ¬ T = L := blk_ne HT HL (by decide)
  clear HF HT HL
  go_enter_defers Tryz.func32, Tryz.ntmps32
  go_upto_region 2 with (refine build_blk (t := 117) #[.string s, .int .i64 (0 : Nat), .int .i64 (0 : Nat)] (by rfl) rfl (by kernel_rfl) ?_)
  generalize w.alloc (.cells #[.string s, .int .i64 0, .int .i64 0] 117) = w1 at *
  generalize w.heap.size = c at *
  have ck := HT1.cv 0 (.int .i64 2) rfl
  clear cA cB
  have HUlt1 := HU1.lt
  go_wp2_with fail
  by_cases h0 : ¬ (0 + 1 ≤ s.size)
  · refine (cnum_bad HU1 1 h0 (by omega) (by decide) (by omega)).mono ?_
    rintro e wb ⟨rfl, bb⟩
    go_wp2
    exact pt_bad (by decide) (HF1.kept bb) (LdAc.zero (HL1.kept bb)) (by rw [formK2]; exact decide_eq_false (by omega)) (B1.trans (bb.mono (by omega))) hDF (by have := bb.size; omega)
  replace h0 : 0 + 1 ≤ s.size := by omega
  have N0 := cnum_ok HU1 1 (by decide) h0 (by omega)
  obtain ⟨v0, hv0⟩ : ∃ v0, v0 = beN ((s.data.toList.drop (0)).take 1) := ⟨_, rfl⟩
  rw [← hv0] at N0
  replace N0 := Lib.hid N0
  replace hv0 := Lib.hid hv0
  refine N0.out.mono ?_
  clear N0
  rintro e w2 ⟨rfl, HU2, g⟩
  have HF2 := HF1.grown g (by simp; omega)
  have HT2 := HT1.grown g (by simp; omega)
  have HL2 := HL1.grown g (by simp; omega)
  have B2 : Below D w w2 := B1.grown g (Nat.le_trans hDw (Nat.le_of_lt (Nat.lt_of_lt_of_le HUlt1 (Nat.le_refl _)))) (fun k e => by cases e; omega)
  clear HF1 HT1 HL1 B1 g
  have HUlt2 := HU2.lt
  go_wp2_with fail
  have N1 := crest_ok HU2 (by omega) (by omega)
  obtain ⟨v1, hv1⟩ : ∃ v1, v1 = (⟨(s.data.toList.drop (0 + 1)).toArray⟩ : ByteArray) := ⟨_, rfl⟩
  rw [← hv1] at N1
  replace N1 := Lib.hid N1
  replace hv1 := Lib.hid hv1
  refine N1.out.mono ?_
  clear N1
  rintro e w3 ⟨rfl, HU3, g⟩
  have HF3 := HF2.grown g (by simp; omega)
  have HT3 := HT2.grown g (by simp; omega)
  have HL3 := HL2.grown g (by simp; omega)
  have B3 : Below D w w3 := B2.grown g (Nat.le_trans hDw (Nat.le_of_lt (Nat.lt_of_lt_of_le HUlt2 (Nat.le_refl _)))) (fun k e => by cases e; omega)
  clear HF2 HT2 HL2 B2 g
  go_wp2_with (first
    | (refine build_blk (t := 23) (nmC ⟨(v0 : Nat), v1⟩) (by rfl) rfl (by kernel_rfl) ?_)
    | (refine store_blk (k := 2) 23 (.agg (nmC ⟨(v0 : Nat), v1⟩)) (ldC { zLd with po := ⟨(v0 : Nat), v1⟩ } zLdA) (by rfl) rfl rfl rfl HL3 (by kernel_rfl) (show (2 + 2 : Nat) ≤ 11 by decide) (by rfl) rfl ?_; intro w4 HL4 bq4 gq4; have HF4 := HF3.grown gq4 (by simp; exact hFL); have HT4 := HT3.grown gq4 (by simp; exact hTL); have HU4 : Cur w4 c s _ 0 := Blk.grown HU3 gq4 (by simp; omega); have B4 : Below D w w4 := B3.trans (bq4.mono hDL)))
  clear HL3 HF3 HT3 HU3 B3
  have LA : LdAc w4 D L { zLd with po := ⟨(v0 : Nat), v1⟩ } := ⟨zLdA, HL4, .nil _ _, .nil _ _, .nil _ _, .nil _ _, .nil _ _, .nil _ _⟩
  obtain ⟨P, hP⟩ : ∃ P, P = s.size := ⟨_, rfl⟩
  rw [← hP] at HU4
  have cP := HU4.cv 1 (.int .i64 (P : Nat)) rfl
  have cT := HT4.cv 1 (.string s) rfl
  have cI := HU4.lt
  go_upto_region 28 with (fail)
  refine wp_region_noPanic ?_
  refine wp_region_held_drew (S := fun w' => w'.cell? ⟨c, 1, none⟩ = some (.int .i64 (P : Nat)) ∧ w'.cell? ⟨T, 1, none⟩ = some (.string s)) (by kernel_rfl) ?_ (fun hHeld => ?_)
  · exact ⟨cP, cT⟩
  refine wpAnyH_take (i := 0) (v := ?_) rfl (by kernel_rfl) (by kernel_rfl) (by kernel_rfl) (fun _ _ _ h => h) (Or.inl ⟨by rfl, ?_⟩) (by assumption) ?_
  rotate_left
  · (intro w hSw; (try dsimp only at hSw); go_simp; (try with_reducible rfl))
  (try simp only [Act.put, List.getElem_toArray, List.getElem_cons_zero, List.getElem_cons_succ, List.setIfInBounds_toArray, List.set_cons_zero, List.set_cons_succ])
  refine wpAnyH_take (i := 1) (v := ?_) rfl (by kernel_rfl) (by kernel_rfl) (by kernel_rfl) (fun _ _ _ h => h) (Or.inl ⟨by rfl, ?_⟩) (by assumption) ?_
  rotate_left
  · (intro w hSw; (try dsimp only at hSw); go_simp; (try with_reducible rfl))
  (try simp only [Act.put, List.getElem_toArray, List.getElem_cons_zero, List.getElem_cons_succ, List.setIfInBounds_toArray, List.set_cons_zero, List.set_cons_succ])
  refine wpAnyH_take (i := 2) (v := ?_) rfl (by kernel_rfl) (by kernel_rfl) (by kernel_rfl) (fun _ _ _ h => h) (Or.inl ⟨by rfl, ?_⟩) (by assumption) ?_
  rotate_left
  · (intro w hSw; (try dsimp only at hSw); go_simp; (try with_reducible rfl))
  (try simp only [Act.put, List.getElem_toArray, List.getElem_cons_zero, List.getElem_cons_succ, List.setIfInBounds_toArray, List.set_cons_zero, List.set_cons_succ])
  refine wpAnyH_take (i := 3) (v := .int .i64 (P : Nat)) rfl (by kernel_rfl) (by kernel_rfl) (by kernel_rfl) (fun _ _ _ h => h) (Or.inl ⟨by rfl, fun w hSw => by have cc := hSw.1; (try dsimp only at cc); go_simp⟩) (by assumption) ?_
  (try simp only [Act.put, List.getElem_toArray, List.getElem_cons_zero, List.getElem_cons_succ, List.setIfInBounds_toArray, List.set_cons_zero, List.set_cons_succ])
  refine wpAnyH_take (i := 4) (v := ?_) rfl (by kernel_rfl) (by kernel_rfl) (by kernel_rfl) (fun _ _ _ h => h) (Or.inl ⟨by rfl, ?_⟩) (by assumption) ?_
  rotate_left
  · (intro w hSw; (try dsimp only at hSw); go_simp; (try with_reducible rfl))
  (try simp only [Act.put, List.getElem_toArray, List.getElem_cons_zero, List.getElem_cons_succ, List.setIfInBounds_toArray, List.set_cons_zero, List.set_cons_succ])
  refine wpAnyH_take (i := 5) (v := .string s) rfl (by kernel_rfl) (by kernel_rfl) (by kernel_rfl) (fun _ _ _ h => h) (Or.inl ⟨by rfl, fun w hSw => by have cc := hSw.2; (try dsimp only at cc); go_simp⟩) (by assumption) ?_
  (try simp only [Act.put, List.getElem_toArray, List.getElem_cons_zero, List.getElem_cons_succ, List.setIfInBounds_toArray, List.set_cons_zero, List.set_cons_succ])
  refine wpAnyH_take (i := 6) (v := ?_) rfl (by kernel_rfl) (by kernel_rfl) (by kernel_rfl) (fun _ _ _ h => h) (Or.inl ⟨by rfl, ?_⟩) (by assumption) ?_
  rotate_left
  · (intro w hSw; (try dsimp only at hSw); go_simp; (try with_reducible rfl))
  (try simp only [Act.put, List.getElem_toArray, List.getElem_cons_zero, List.getElem_cons_succ, List.setIfInBounds_toArray, List.set_cons_zero, List.set_cons_succ])
  refine wpAnyH_take (i := 7) (v := ?_) rfl (by kernel_rfl) (by kernel_rfl) (by kernel_rfl) (fun _ _ _ h => h) (Or.inl ⟨by rfl, ?_⟩) (by assumption) ?_
  rotate_left
  · (intro w hSw; (try dsimp only at hSw); go_simp; (try with_reducible rfl))
  (try simp only [Act.put, List.getElem_toArray, List.getElem_cons_zero, List.getElem_cons_succ, List.setIfInBounds_toArray, List.set_cons_zero, List.set_cons_succ])
  refine wpAnyH_done (by kernel_rfl) ?_ _
  refine NoPanic.normal ?_
  have HFd := HF4.drew
  have LAd := LA.drew
  have Bd := B4.drew
  have HUd := HU4.drew
  have hszd : D ≤ w4.drew.heap.size := by show D ≤ w4.heap.size; omega
  clear HF4 LA B4 HU4 cP cT cI HT4 HL4
  generalize w4.drew = wz at *
  by_cases hl : P < s.size
  · exact absurd hl (by omega)
  · have d1 : decide ((P : Int) < (s.size : Int)) = false := decide_eq_false (by omega)
    have d2 : decide (P < s.size) = false := decide_eq_false hl
    have hf : Hid (formK 2 s.data.toList = true) := (by show _ = _; rw [formK2]; exact decide_eq_true (by omega))
    have hy : Hid (({ zLd with po := ⟨(v0 : Nat), v1⟩ } : Ld) = addLd zLd ⟨2, s⟩) := by
      show _ = _
      rw [addLd2, hv0.out, hv1.out]
      unfold nmOf
      rw [List.drop_zero]
    rw [hy.out] at LAd
    go_wp2
    exact pt_ok HFd LAd hf.out Bd hDF hszd

end Go.Proofs.YtocgnbbnaamjjaaGreatDoor

