/- Texts one behind the other. lldp.Read at every text. slices.Equal of lists that are the same. A great value is put into a block of its own: what follows sees the block alone. switchyardkeep.sameLldp of what is the same. switchyardkeep.told: a fact: true; lldp.Read's two ends. switchyardkeep.large; two records of a row of one's own change places. -/
import Derived.Test.YtcijhmbimbejfaaGreatDoorLbK1
import Derived.Test.YtcijhmbimbejfaaGreatDoorLbK3
import Derived.Test.YtcijhmbimbejfaaGreatDoorLbK4
import Derived.Test.YtcijhmbimbejfaaGreatDoorLbK5
import Derived.Test.YtcijhmbimbejfaaGreatDoorLbK8
import Derived.Test.YtcijhmbimbejfaaGreatDoorLbK9
import Derived.Great.Ranges
namespace Go.Proofs.YtcijhmbimbejfaaGreatDoor
open Go.RowKit
attribute [local go_sem ↓] Go.wp_at_zero Go.wp_at_succ
set_option linter.unusedSimpArgs false
set_option linter.unusedVariables false
set_option maxRecDepth 100000

/-- What a station tells, and its error. -/
def LdAns (R : LdR) (w : World) (e : Ending) (w' : World) : Prop := ∃ q er, e = .returned (.tuple #[.agg (ldC R.val q), er]) ∧ LdIn w' R.val q ∧ ErrAs w' er R.er R.pl ∧ Below w.heap.size w w'
theorem rows_inn {w : World} {D : Nat} {x : Ld} {q : LdA} (o1 : OwnSt w D (.slice q.de.1 x.de.length q.de.2) x.de) (o2 : OwnSt w D (.slice q.ho.1 x.ho.length q.ho.2) x.ho) (o3 : OwnSt w D (.slice q.sy.1 x.sy.length q.sy.2) x.sy) (o4 : OwnCp w D (.slice q.ca.1 x.ca.length q.ca.2) x.ca) (o5 : OwnMg w D (.slice q.ma.1 x.ma.length q.ma.2) x.ma) (o6 : OwnOg w D (.slice q.og.1 x.og.length q.og.2) x.og) : LdIn w x q := by
  obtain ⟨a1, c1, e1, i1⟩ := o1.inL
  obtain ⟨a2, c2, e2, i2⟩ := o2.inL
  obtain ⟨a3, c3, e3, i3⟩ := o3.inL
  obtain ⟨a4, c4, e4, i4⟩ := o4.inL
  obtain ⟨a5, c5, e5, i5⟩ := o5.inL
  obtain ⟨a6, c6, e6, i6⟩ := o6.inL
  cases e1; cases e2; cases e3; cases e4; cases e5; cases e6
  exact ⟨i1, i2, i3, i4, i5, i6⟩
theorem LdAc.zero {w : World} {D B : Nat} (h : Blk w B 29 (ldC zLd zLdA)) : LdAc w D B zLd := ⟨zLdA, h, .nil _ _, .nil _ _, .nil _ _, .nil _ _, .nil _ _, .nil _ _⟩
theorem exec_build_blkL {P : Program} {a : Act} {o : Oper} {w : World} {t : TypeId} {parts : Array (Nat × Operand)} (X : Array Value) (ho : o.op = .build t parts)
    (hf : P.built t (parts.map fun (i, x) => (i, a.eval x)).toList = some X) : (execOp a.eval o).run P w = .ok (.value (.agg X)) w := by
  have h1 := run_build (P := P) w t (parts.map fun (i, x) => (i, a.eval x)) X hf
  unfold execOp
  simp only [ho, Sem.run_bind, Result.andThen_ok, h1, Sem.run_pure]
theorem cell_alloc {w : World} {X j : Nat} {o : Obj} {v : Value} (h : w.cell? ⟨X, j, none⟩ = some v) (hlt : X < w.heap.size) : (w.alloc o).cell? ⟨X, j, none⟩ = some v := by
  have hk : (w.alloc o).heap[X]? = w.heap[X]? := Below.heap_alloc w o X hlt
  unfold World.cell? at h ⊢
  simp only at h ⊢
  rw [hk]
  exact h
theorem cell_grown {w w' : World} {B X j : Nat} {v : Value} (h : w.cell? ⟨X, j, none⟩ = some v) (hg : w.grownBy w' (some B)) (hX : X ≠ B) (hlt : X < w.heap.size) : w'.cell? ⟨X, j, none⟩ = some v := by
  have hk : w'.heap[X]? = w.heap[X]? := hg.block X hlt (by simpa using hX)
  unfold World.cell? at h ⊢
  simp only at h ⊢
  rw [hk]
  exact h
theorem zLd_in (w : World) : LdIn w zLd zLdA := ⟨Or.inl rfl, Or.inl rfl, Or.inl rfl, Or.inl rfl, Or.inl rfl, Or.inl rfl⟩
theorem LdAc.drew {w : World} {D B : Nat} {x : Ld} (h : LdAc w D B x) : LdAc w.drew D B x := h
theorem LdAc.otherT {w w' : World} {D B X : Nat} {x : Ld} {T : TypeId} {C : Array Value} (h : LdAc w D B x) (hX : Blk w X T C) (hT : T ≠ 29 ∧ T ≠ 9 ∧ T ≠ 91 ∧ T ≠ 94 ∧ T ≠ 116) (hg : w.grownBy w' (some X)) : LdAc w' D B x := by
  obtain ⟨q, hB, o1, o2, o3, o4, o5, o6⟩ := h
  have hst : ∀ Y U E, Blk w Y U E → U ≠ T → Blk w' Y U E := fun Y U E hY hU => hY.grown hg (by have := blk_ne hY hX hU; simpa using this)
  exact ⟨q, hst _ _ _ hB (Ne.symm hT.1), o1.stay (fun X C hX => hst _ _ _ hX (Ne.symm hT.2.1)), o2.stay (fun X C hX => hst _ _ _ hX (Ne.symm hT.2.1)), o3.stay (fun X C hX => hst _ _ _ hX (Ne.symm hT.2.1)), o4.stay (fun X C hX => hst _ _ _ hX (Ne.symm hT.2.2.1)), o5.stay (fun X C hX => hst _ _ _ hX (Ne.symm hT.2.2.2.1)), o6.stay (fun X C hX => hst _ _ _ hX (Ne.symm hT.2.2.2.2))⟩

set_option maxHeartbeats 1000000 in
theorem ldRead_any (s : ByteArray) (w : World) (hs : s.size ≤ 100000) (RR : LdR) (hRR : rdLd s.data.toList = RR) : Calls Tryz.prog 6 #[.string s] w (LdAns RR w) := by
  have HT := Lib.hid (fun (W : World) => tlRead_any s W hs _ rfl)
  have hW := Lib.hid (fun m b e (h : rdAll s.data.toList = .ok m b e) => wrote_rdAll s.data.toList m b e h)
  have hbn := Lib.hid (fun e p (h : rdAll s.data.toList = .bad e p) => rd_bad_ne s.data.toList _ _ _ _ e p h)
  have hls : s.data.toList.length = s.size := by simp
  have hRR := Lib.hid hRR
  have HA0 := Blk.new w 29 (ldC zLd zLdA)
  have b0 : Below w.heap.size w (w.alloc (.cells (ldC zLd zLdA) 29)) := (Below.refl _ _).alloc (Nat.le_refl _) _
  cases hR : rdAll s.data.toList with
  | bad e p =>
    rw [hR] at HT
    have hne := hbn.out _ _ hR
    have hv : Hid (RR = .bad e p) := by
      show _ = _
      rw [← hRR.out]
      unfold rdLd
      rw [hR]
      rfl
    clear hR hbn hW hRR
    go_enter Tryz.func6, Tryz.ntmps6
    go_wp2_with (refine alloc_blk 29 (ldC zLd zLdA) (by rfl) rfl Tryz.ldZero ?_)
    generalize w.alloc (.cells (ldC zLd zLdA) 29) = w1 at *
    refine (HT.out w1).mono ?_
    rintro r w2 ⟨v1, v2, er, rfl, HO, HN, HE, B2⟩
    have HE2 := HE
    rcases HE with ⟨-, q0, -⟩ | ⟨-, q, rfl, hF⟩
    · exact absurd q0 hne
    have HA2 := HA0.kept (show Below w1.heap.size w1 w2 from B2)
    have E2 := b0.trans (B2.mono b0.size)
    have hE2 := Lib.hid HE2
    clear HE2 hF HO HN HT
    go_wp2_with (first
      | (refine build_blk (t := 29) (ldC zLd zLdA) (by rfl) rfl (by kernel_rfl) ?_)
      | (refine store_blk (k := 0) 29 (.agg (ldC zLd zLdA)) (ldC zLd zLdA) (by rfl) rfl rfl rfl HA2 (by kernel_rfl) (Nat.le_of_eq rfl) (by rfl) (st_whole _ _ rfl) ?_; intro w3 HA3 b3 g3))
    refine bodyPost_ret (results_blk_tmp rfl rfl HA3 (by kernel_rfl) (by kernel_rfl)) rfl ?_
    rw [hv.out]
    refine ⟨zLdA, _, rfl, zLd_in _, ?_, E2.trans b3⟩
    have hq : q ≠ w.heap.size := by
      rcases hE2.out with ⟨h, -⟩ | ⟨-, q', h, hf⟩
      · cases h
      · cases h
        exact blk_ne hf HA2 (by decide)
    rcases hE2.out with ⟨h, -⟩ | ⟨-, q', h, hf⟩
    · cases h
    · exact Or.inr ⟨hne, q', h, hf.kept g3 (by cases h; simpa using hq)⟩
  | ok l a e =>
    have HT : Hid (∀ W : World, Calls Tryz.prog 23 #[.string s] W fun e' w' => ∃ v1 v2 er, e' = .returned (.tuple #[v1, v2, .int .i64 (e : Nat), er]) ∧ OwnTl w' W.heap.size v1 l ∧ OwnNat w' W.heap.size v2 a ∧ ErrAs w' er 0 (-1) ∧ Below W.heap.size W w') := fun W => tlRead_any s W hs (.ok l a e) hR
    obtain ⟨f1, f2, f3, f4, f5, f6, f7⟩ := hW.out l a e hR
    have hal : a.length = l.length := by rw [f5, offs_len]
    have hok := Lib.hid (fun k (hk : k < l.length) => okTl_all (f1 _ (List.getElem_mem hk)))
    have hll : l.length ≤ 50000 := by omega
    have hel : e ≤ 100000 := by omega
    have hv : Hid (RR = ldAtK e l a 0) := by
      show _ = _
      rw [← hRR.out, ldAtK_zero]
      unfold rdLd
      rw [hR]
      rfl
    have has := Lib.hid (fun k (hk : k < a.length) => (show a[k] ≤ 100000 by
      have h1 : k < l.length := by omega
      have h2 := offs_get l 0 k h1
      have h3 := tlWs_take l k h1
      have h4 : a[k] = (offs 0 l)[k]'(by rw [offs_len]; exact h1) := by simp only [f5]
      rw [h4, h2]
      have h5 : (tlWs (l.take k)).length ≤ (tlWs l).length := by
        conv => rhs; rw [← List.take_append_drop k l, tlWs_app, List.length_append]
        omega
      have h6 : (tlWs l).length + 2 = e + 2 := by
        have := f3
        unfold tlWrite at this
        rw [List.length_append] at this
        exact this
      omega))
    clear hR hbn hW f1 f2 f3 f4 f5 f6 f7 hRR
    go_enter Tryz.func6, Tryz.ntmps6
    go_wp2_with (refine alloc_blk 29 (ldC zLd zLdA) (by rfl) rfl Tryz.ldZero ?_)
    have hw1 : (w.alloc (.cells (ldC zLd zLdA) 29)).heap.size = w.heap.size + 1 := by simp
    generalize w.alloc (.cells (ldC zLd zLdA) 29) = w1 at *
    refine (HT.out w1).mono ?_
    rintro r w2 ⟨v1, v2, er, rfl, HO, HN, HE, B2⟩
    have her : er = .nilIface := by
      rcases HE with ⟨h, -⟩ | ⟨h, -⟩
      · exact h
      · exact absurd rfl h
    subst her
    obtain ⟨al, cl, rfl, HL⟩ := HO.inL
    obtain ⟨aa, ca, rfl, HS⟩ := HN.inL
    have HA2 := HA0.kept (show Below w1.heap.size w1 w2 from B2)
    have E2 := b0.trans (B2.mono b0.size)
    have hA2 : w.heap.size < w2.heap.size := HA2.lt
    have hbA : Hid (∀ b lo, aa = some ⟨b, lo, none⟩ → w.heap.size < b) := fun b lo e => by
      have hs1 : w1.heap.size = w.heap.size + 1 := hw1
      rcases HN.blk with q | ⟨g, C', q, hq, -⟩
      · rw [e] at q; cases q
      · rw [e] at q
        have q' : b = g := by simpa [Value.ownBlock] using q
        omega
    clear HE HO HN HT B2 b0 HA0 hw1
    have HB3 := Blk.new w2 29 (ldC zLd zLdA)
    have HC4 := Blk.new (w2.alloc (.cells (ldC zLd zLdA) 29)) 99 (cntC fun _ => 0)
    have HB4 := HB3.alloc (.cells (cntC fun _ => 0) 99)
    have K4 : Below w2.heap.size w2 ((w2.alloc (.cells (ldC zLd zLdA) 29)).alloc (.cells (cntC fun _ => 0) 99)) := ((Below.refl _ _).alloc (Nat.le_refl _) _).alloc (by simp) _
    have hsz3 : (w2.alloc (.cells (ldC zLd zLdA) 29)).heap.size = w2.heap.size + 1 := by simp
    go_wp2_with (first
      | (refine alloc_blk 29 (ldC zLd zLdA) (by rfl) rfl Tryz.ldZero ?_)
      | (refine alloc_blk 99 (cntC fun _ => 0) (by rfl) rfl Tryz.cntZero ?_))
    rw [hsz3] at HC4
    generalize hw4 : (w2.alloc (.cells (ldC zLd zLdA) 29)).alloc (.cells (cntC fun _ => 0) 99) = w4 at *
    clear hw4 hsz3 HB3
    generalize hD : w2.heap.size = D at *
    have HB4 := Lib.hid HB4
    go_wp2_with fail
    go_loopw [26] (fun i wr => ∃ k : Nat, k ≤ l.length ∧ i = .int .i64 k ∧ LdAc wr D D (ldVal (l.take k)) ∧ Blk wr (D + 1) 99 (cntC fun j => cntK j (l.take k)) ∧ Below D w2 wr ∧ Hid (RR = ldAtK e l a k)) (fun i _ => l.length - (intOf i).toNat)
    case atStart => exact ⟨0, by omega, rfl, LdAc.zero HB4.out, HC4, K4, hv⟩
    case round =>
      obtain ⟨k, hk, rfl, HAk, HCk, Bk, hRk⟩ := hrel
      by_cases hlt : k < l.length
      · have hka : k < a.length := by omega
        have hbl2D : Hid (∀ b lo, aa = some ⟨b, lo, none⟩ → b < D) := fun b lo e => by
          obtain ⟨b', lo', e', h', -⟩ := HS.at hka
          rw [e] at e'
          cases e'
          rw [← hD]
          exact h'
        obtain ⟨b, lo, rfl, hbl, hat⟩ := (HL.below (by rw [hD]; exact Bk)).at hlt
        obtain ⟨b2, lo2, rfl, hbl2, hat2⟩ := (HS.below (by rw [hD]; exact Bk)).at hka
        have q1 : (k : Int) < (l.length : Int) := by omega
        have q2 : decide ((k : Int) < (l.length : Int)) = true := decide_eq_true q1
        have q3 : (0 : Int) ≤ (k : Int) := by omega
        have q5 : (k : Int) < (a.length : Int) := by omega
        have HK := hat k hlt
        have HKS : Hid (∀ W, Below D w2 W → W.cell? ⟨b2, lo2 + k, none⟩ = some (.int .i64 (a[k] : Nat))) := fun W hW => by
          obtain ⟨b', lo', e', -, h'⟩ := (HS.below (by rw [hD]; exact hW)).at hka
          cases e'
          have q := h' k hka 0 (.int .i64 (a[k] : Nat)) rfl
          rw [Nat.mul_one, Nat.add_zero] at q
          exact q
        have h1 := hok.out k hlt
        have h2 := has.out k hka
        have HST := Lib.hid (ldAtK_step e l a k hlt)
        have HBD := Lib.hid (ldAtK_bad e l a k hlt hka)
        have HSV := Lib.hid (ldVal_snoc l k hlt)
        have HCN := Lib.hid (fun j => cntK_snoc j l k hlt)
        obtain ⟨z4, z5, z6, z7, z8, z9⟩ := fold_empty (l.take k)
        have hlk : (l.take k).length ≤ k := by rw [List.length_take]; omega
        generalize l[k] = x at *
        generalize a[k] = ak at *
        obtain ⟨xk, xt⟩ := x
        simp only at h1 HST HBD HSV HCN
        obtain ⟨kn, rfl⟩ : ∃ kn : Nat, xk = (kn : Int) := ⟨xk.toNat, by omega⟩
        have hkn : kn < 128 := by omega
        have hcl := cntK_le (kn : Int) (l.take k)
        have HF := Lib.hid (fun (W : World) (h : LdAc W D D (ldVal (l.take k))) => fault_any (ldVal (l.take k)) ⟨(kn : Int), xt⟩ k (cntK (kn : Int) (l.take k)) W h (Nat.le_refl D) (by show xt.size ≤ _; omega) (by omega) ⟨by show (0 : Int) < (kn : Int); omega, by show (kn : Int) ≤ 1000; omega⟩ (by omega) (fun q r => z4 (by rw [show (4 : Int) = (kn : Int) from q.symm]; exact r)) (fun q r => z5 (by rw [show (5 : Int) = (kn : Int) from q.symm]; exact r)) (fun q r => z6 (by rw [show (6 : Int) = (kn : Int) from q.symm]; exact r)) (fun q r => z7 (by rw [show (7 : Int) = (kn : Int) from q.symm]; exact r)) (by omega) (by omega))
        have hcg := cntC_get (fun j => cntK j (l.take k)) kn hkn
        have hcs := Lib.hid (fun g hg => cntC_set (fun j => cntK j (l.take k)) g kn hkn hg)
        have hcz := Lib.hid (cntC_size (fun j => cntK j (l.take k)))
        (try simp only at hcg)
        have hcb : cntK (kn : Int) (l.take k) ≤ 50000 := by omega
        have r1 : (0 : Int) ≤ (kn : Int) := by omega
        have r2 : (kn : Int) < 128 := by omega
        clear hat hat2 z4 z5 z6 z7 z8 z9 hlk hcl h1
        generalize hcc : cntK (kn : Int) (l.take k) = c at *
        have HCC := Lib.hid hcc
        clear hcc
        obtain ⟨V, hV⟩ : ∃ V, V = vrd ⟨(kn : Int), xt⟩ k c := ⟨_, rfl⟩
        rw [← hV] at HST HBD HF
        clear hV
        have cC := HCk.cv kn _ hcg
        have hCr := HCk.lt
        have hAr := HAk.lt
        go_upto_region 9 with (first
          | (refine load_cells (B := b) (k := lo + k * 2) 85 (tlC ⟨(kn : Int), xt⟩) (by rfl) rfl rfl HK (by kernel_rfl) (by kernel_rfl) ?_)
          | (refine alloc_blk 85 (tlC zTl) (by rfl) rfl Tryz.tlZero ?_)
          | (refine store_blk (k := 0) 85 (.agg (tlC ⟨(kn : Int), xt⟩)) (tlC ⟨(kn : Int), xt⟩) (by rfl) rfl rfl rfl (Blk.new wr _ _) (by kernel_rfl) (Nat.le_of_eq rfl) (by rfl) (st_whole _ _ rfl) ?_; intro w5 HT5 b5 g5))
        (try simp only [Act.put, List.setIfInBounds_toArray, List.set_cons_zero, List.set_cons_succ])
        have A5 : Below wr.heap.size wr w5 := ((Below.refl _ _).alloc (Nat.le_refl _) _).trans b5
        have HA5 := HAk.kept A5
        have HC5 := HCk.kept A5
        have hDr : D ≤ wr.heap.size := by have := Bk.size; omega
        have B5 := Bk.trans (A5.mono hDr)
        have k5 := HT5.cv 0 (.int .i64 (kn : Int)) rfl
        have c5 := HC5.cv kn _ hcg
        have hTD : wr.heap.size ≠ D := by omega
        have hCD : D + 1 ≠ D := by omega
        clear b5 g5 A5 HAk HCk Bk HK cC hbl hbl2
        generalize wr.heap.size = T at *
        refine wp_region_noPanic ?_
        refine wp_region_held_drew (S := fun w' => Blk w' T 85 (tlC ⟨(kn : Int), xt⟩) ∧ w'.cell? ⟨T, 0, none⟩ = some (.int .i64 (kn : Int)) ∧ w'.cell? ⟨D + 1, kn, none⟩ = some (.int .i64 (c : Nat))) (by kernel_rfl) ?_ (fun hHeld => ?_)
        · exact ⟨HT5, k5, c5⟩
        refine wpAnyH_take (i := 0) (v := .agg (tlC ⟨(kn : Int), xt⟩)) rfl (by kernel_rfl) (by kernel_rfl) (by kernel_rfl) (fun _ _ _ h => h) (Or.inl ⟨by rfl, fun w hSw => exec_load_blk (k := 0) 85 (tlC ⟨(kn : Int), xt⟩) rfl rfl hSw.1 (by kernel_rfl) (by kernel_rfl) rfl⟩) (by assumption) ?_
        (try simp only [Act.put, List.getElem_toArray, List.getElem_cons_zero, List.getElem_cons_succ, List.setIfInBounds_toArray, List.set_cons_zero, List.set_cons_succ])
        refine wpAnyH_take (i := 1) (v := ?_) rfl (by kernel_rfl) (by kernel_rfl) (by kernel_rfl) (fun _ _ _ h => h) (Or.inl ⟨by rfl, ?_⟩) (by assumption) ?_
        rotate_left
        · (intro w hSw; (try dsimp only at hSw); go_simp; (try with_reducible rfl))
        (try simp only [Act.put, List.getElem_toArray, List.getElem_cons_zero, List.getElem_cons_succ, List.setIfInBounds_toArray, List.set_cons_zero, List.set_cons_succ])
        refine wpAnyH_take (i := 2) (v := ?_) rfl (by kernel_rfl) (by kernel_rfl) (by kernel_rfl) (fun _ _ _ h => h) (Or.inl ⟨by rfl, ?_⟩) (by assumption) ?_
        rotate_left
        · (intro w hSw; (try dsimp only at hSw); go_simp; (try with_reducible rfl))
        (try simp only [Act.put, List.getElem_toArray, List.getElem_cons_zero, List.getElem_cons_succ, List.setIfInBounds_toArray, List.set_cons_zero, List.set_cons_succ])
        refine wpAnyH_take (i := 3) (v := .int .i64 (kn : Int)) rfl (by kernel_rfl) (by kernel_rfl) (by kernel_rfl) (fun _ _ _ h => h) (Or.inl ⟨by rfl, fun w hSw => by have cc := hSw.2.1; (try dsimp only at cc); go_simp⟩) (by assumption) ?_
        (try simp only [Act.put, List.getElem_toArray, List.getElem_cons_zero, List.getElem_cons_succ, List.setIfInBounds_toArray, List.set_cons_zero, List.set_cons_succ])
        refine wpAnyH_take (i := 4) (v := ?_) rfl (by kernel_rfl) (by kernel_rfl) (by kernel_rfl) (fun _ _ _ h => h) (Or.inl ⟨by rfl, ?_⟩) (by assumption) ?_
        rotate_left
        · (intro w hSw; (try dsimp only at hSw); go_simp; (try with_reducible rfl))
        (try simp only [Act.put, List.getElem_toArray, List.getElem_cons_zero, List.getElem_cons_succ, List.setIfInBounds_toArray, List.set_cons_zero, List.set_cons_succ])
        refine wpAnyH_take (i := 5) (v := .int .i64 (c : Nat)) rfl (by kernel_rfl) (by kernel_rfl) (by kernel_rfl) (fun _ _ _ h => h) (Or.inl ⟨by rfl, fun w hSw => by have cc := hSw.2.2; (try dsimp only at cc); go_simp⟩) (by assumption) ?_
        (try simp only [Act.put, List.getElem_toArray, List.getElem_cons_zero, List.getElem_cons_succ, List.setIfInBounds_toArray, List.set_cons_zero, List.set_cons_succ])
        refine wpAnyH_ready (rs := [6]) (by kernel_rfl) (by simp) ?_
        refine AllReadyH.cons rfl (fun K hK => ?_) AllReadyH.nil
        simp only [List.getElem_toArray, List.getElem_cons_zero, List.getElem_cons_succ]
        go_simp
        go_at_call 24; (refine (HF.out _ (show LdAc w5.drew D D (ldVal (l.take k)) from HA5)).mono ?_); rintro r w6 ⟨rfl, hac, K6, E6⟩; have HT6 := K6 _ _ _ (show Blk w5.drew T _ _ from HT5) hTD (by decide); have HC6 := K6 _ _ _ (show Blk w5.drew (D + 1) _ _ from HC5) hCD (by decide); have B6 : Below D w2 w6 := (Below.drew B5).trans E6; have k6 := HT6.cv 0 (.int .i64 (kn : Int)) rfl; have c6 := HC6.cv kn _ hcg; replace hac := Lib.hid hac; clear HF K6 E6 HA5 HT5 HC5 B5
        refine hK.out _ _ ?_ (fun hHeld => ?_)
        · exact ⟨HT6, k6, c6⟩
        clear hK K
        (try simp only [Act.put, List.getElem_toArray, List.getElem_cons_zero, List.getElem_cons_succ, List.setIfInBounds_toArray, List.set_cons_zero, List.set_cons_succ])
        refine wpAnyH_take (i := 7) (v := ?_) rfl (by kernel_rfl) (by kernel_rfl) (by kernel_rfl) (fun _ _ _ h => h) (Or.inl ⟨by rfl, ?_⟩) (by assumption) ?_
        rotate_left
        · (intro w hSw; (try dsimp only at hSw); go_simp; (try with_reducible rfl))
        (try simp only [Act.put, List.getElem_toArray, List.getElem_cons_zero, List.getElem_cons_succ, List.setIfInBounds_toArray, List.set_cons_zero, List.set_cons_succ])
        refine wpAnyH_done (by kernel_rfl) ?_ _
        refine NoPanic.normal ?_
        have HA6 := HA2.below B6 hA2
        by_cases hV0 : V = 0
        · have hV1 : (V != 0) = false := by simp [hV0]
          have HA7 := hac.out hV0
          have hR2 := hRk.out.trans (HST.out hV0)
          replace hR2 := Lib.hid hR2
          have hset : Hid ((cntC fun j => cntK j (l.take k)).setIfInBounds kn (.int .i64 ((c + 1 : Nat) : Int)) = cntC fun j => cntK j (l.take (k + 1))) := by
            have q := hcs.out (fun j => cntK j (l.take (k + 1))) (fun j => by rw [HCN.out]; by_cases e : (kn : Int) = (j : Int) <;> simp [e] <;> omega)
            exact q
          have hk1 : kn + 1 ≤ 128 := by omega
          have hz1 : Hid (kn + 1 ≤ (cntC fun j => cntK j (l.take k)).size) := by show _ ≤ _; rw [hcz.out]; exact hk1
          rw [← HSV.out] at HA7
          clear hac HST HBD hV0 HSV hRk
          go_wp2_with (first
            | (refine store_blk (k := kn) 3 (.int .i64 ((c + 1 : Nat) : Int)) (cntC fun j => cntK j (l.take (k + 1))) (by rfl) rfl rfl rfl HC6 (by kernel_rfl) hz1.out (by rfl) (st_cell _ _ kn _ rfl hz1.out hset.out) ?_; intro w7 HC7 b7 g7))
          have HA8 := HA7.otherT HC6 (by decide) g7
          have B7 := B6.trans (b7.mono (Nat.le_succ D))
          go_roundw
          case rel => exact ⟨k + 1, by omega, by go_num, HA8, HC7, B7, hR2⟩
          case measure => simp [intOf]; omega
        · have hV1 : (V != 0) = true := by simpa using hV0
          have HRB : Hid (RR = .bad V ak) := hRk.out.trans (HBD.out hV0)
          have hVV := Lib.hid hV0
          have c6s := HKS.out _ B6
          have hbA2 := hbA.out _ _ rfl
          have hb2 : b2 < D := hbl2D.out _ _ rfl
          clear hac HST HBD HSV hRk hV0 k6 c6 HT6 HC6 hcs
          go_upto_region 11 with (fail)
          refine wp_region_noPanic ?_
          refine wp_region_held_drew (S := fun w' => w'.cell? ⟨b2, lo2 + k, none⟩ = some (.int .i64 (ak : Nat))) (by kernel_rfl) ?_ (fun hHeld => ?_)
          · exact c6s
          refine wpAnyH_take (i := 0) (v := .agg (ldC zLd zLdA)) rfl (by kernel_rfl) (by kernel_rfl) (by kernel_rfl) (fun _ _ _ h => h) (Or.inl ⟨by rfl, fun w hSw => exec_build_blkL (t := 29) (ldC zLd zLdA) rfl (by kernel_rfl)⟩) (by assumption) ?_
          (try simp only [Act.put, List.getElem_toArray, List.getElem_cons_zero, List.getElem_cons_succ, List.setIfInBounds_toArray, List.set_cons_zero, List.set_cons_succ])
          refine wpAnyH_take (i := 1) (v := ?_) rfl (by kernel_rfl) (by kernel_rfl) (by kernel_rfl) (fun _ _ _ h => h) (Or.inl ⟨by rfl, ?_⟩) (by assumption) ?_
          rotate_left
          · (intro w hSw; (try dsimp only at hSw); go_simp; (try with_reducible rfl))
          (try simp only [Act.put, List.getElem_toArray, List.getElem_cons_zero, List.getElem_cons_succ, List.setIfInBounds_toArray, List.set_cons_zero, List.set_cons_succ])
          refine wpAnyH_take (i := 2) (v := ?_) rfl (by kernel_rfl) (by kernel_rfl) (by kernel_rfl) (fun _ _ _ h => h) (Or.inl ⟨by rfl, ?_⟩) (by assumption) ?_
          rotate_left
          · (intro w hSw; (try dsimp only at hSw); go_simp; (try with_reducible rfl))
          (try simp only [Act.put, List.getElem_toArray, List.getElem_cons_zero, List.getElem_cons_succ, List.setIfInBounds_toArray, List.set_cons_zero, List.set_cons_succ])
          refine wpAnyH_take (i := 3) (v := ?_) rfl (by kernel_rfl) (by kernel_rfl) (by kernel_rfl) (fun _ _ _ h => h) (Or.inl ⟨by rfl, ?_⟩) (by assumption) ?_
          rotate_left
          · (intro w hSw; (try dsimp only at hSw); go_simp; (try with_reducible rfl))
          (try simp only [Act.put, List.getElem_toArray, List.getElem_cons_zero, List.getElem_cons_succ, List.setIfInBounds_toArray, List.set_cons_zero, List.set_cons_succ])
          refine wpAnyH_take (i := 4) (v := ?_) rfl (by kernel_rfl) (by kernel_rfl) (by kernel_rfl) (fun _ _ _ h => h) (Or.inl ⟨by rfl, ?_⟩) (by assumption) ?_
          rotate_left
          · (intro w hSw; (try dsimp only at hSw); go_simp; (try with_reducible rfl))
          (try simp only [Act.put, List.getElem_toArray, List.getElem_cons_zero, List.getElem_cons_succ, List.setIfInBounds_toArray, List.set_cons_zero, List.set_cons_succ])
          refine wpAnyH_take (i := 5) (v := .int .i64 (ak : Nat)) rfl (by kernel_rfl) (by kernel_rfl) (by kernel_rfl) (fun _ _ _ h => h) (Or.inl ⟨by rfl, fun w hSw => by (try dsimp only at hSw); go_simp⟩) (by assumption) ?_
          (try simp only [Act.put, List.getElem_toArray, List.getElem_cons_zero, List.getElem_cons_succ, List.setIfInBounds_toArray, List.set_cons_zero, List.set_cons_succ])
          refine wpAnyH_take (i := 6) (v := .agg (#[.int .i64 V, .int .i64 (ak : Nat)])) rfl (by kernel_rfl) (by kernel_rfl) (by kernel_rfl) (fun _ _ _ h => h) (Or.inl ⟨by rfl, fun w hSw => exec_build_blkL (t := 104) (#[.int .i64 V, .int .i64 (ak : Nat)]) rfl (by kernel_rfl)⟩) (by assumption) ?_
          (try simp only [Act.put, List.getElem_toArray, List.getElem_cons_zero, List.getElem_cons_succ, List.setIfInBounds_toArray, List.set_cons_zero, List.set_cons_succ])
          refine wpAnyH_ready (rs := [7, 9]) (by kernel_rfl) (by simp) ?_
          refine AllReadyH.cons rfl (fun K hK => ?_) (AllReadyH.cons rfl (fun K hK => ?_) AllReadyH.nil)
          · have E6 : Below w.heap.size w w6 := E2.trans (B6.mono (Nat.le_of_lt hA2))
            have hA6 : w.heap.size < w6.heap.size := HA6.lt
            have hb6 : b2 < w6.heap.size := by have := B6.size; have := E2.size; omega
            simp only [List.getElem_toArray, List.getElem_cons_zero, List.getElem_cons_succ]
            rw [if_pos (by rfl)]
            go_simp
            have HQ := (Blk.new w6 104 #[.int .i64 V, .int .i64 (ak : Nat)]).drew
            have HAx := ((show Blk w6 w.heap.size 29 (ldC zLd zLdA) from HA6).alloc (.cells #[.int .i64 V, .int .i64 (ak : Nat)] 104)).drew
            have EX : Below w.heap.size w (w6.alloc (.cells #[.int .i64 V, .int .i64 (ak : Nat)] 104)).drew := (E6.alloc E6.size _).drew
            have cX : (w6.alloc (.cells #[.int .i64 V, .int .i64 (ak : Nat)] 104)).drew.cell? ⟨b2, lo2 + k, none⟩ = some (.int .i64 (ak : Nat)) := cell_alloc (w := w6) c6s (show b2 < w6.heap.size from hb6)
            have hGA : w.heap.size < w6.heap.size := hA6
            have hbX : b2 < (w6.alloc (.cells #[.int .i64 V, .int .i64 (ak : Nat)] 104)).drew.heap.size := by show b2 < (w6.alloc _).heap.size; simp; omega
            generalize (w6.alloc (.cells #[.int .i64 V, .int .i64 (ak : Nat)] 104)).drew = w7 at *
            generalize w6.heap.size = G at *
            refine hK.out _ _ ?_ (fun hHeld => ?_)
            · exact cX
            clear hK K
            (try simp only [Act.put, List.getElem_toArray, List.getElem_cons_zero, List.getElem_cons_succ, List.setIfInBounds_toArray, List.set_cons_zero, List.set_cons_succ])
            refine wpAnyH_take (i := 8) (v := ?_) rfl (by kernel_rfl) (by kernel_rfl) (by kernel_rfl) (fun _ _ _ h => h) (Or.inl ⟨by rfl, ?_⟩) (by assumption) ?_
            rotate_left
            · (intro w hSw; (try dsimp only at hSw); go_simp; (try with_reducible rfl))
            (try simp only [Act.put, List.getElem_toArray, List.getElem_cons_zero, List.getElem_cons_succ, List.setIfInBounds_toArray, List.set_cons_zero, List.set_cons_succ])
            refine wpAnyH_ready (rs := [9]) (by kernel_rfl) (by simp) ?_
            refine AllReadyH.cons rfl (fun K hK => ?_) AllReadyH.nil
            simp only [List.getElem_toArray, List.getElem_cons_zero, List.getElem_cons_succ]
            rw [if_pos (by rfl)]
            refine wp_store_op (k := 0) 29 (.agg (ldC zLd zLdA)) (ldC zLd zLdA) (by rfl) rfl rfl HAx (by kernel_rfl) (Nat.le_of_eq rfl) (by rfl) (st_whole _ _ rfl) (fun w8 HA8 b8 g8 => ?_)
            have E9 := EX.trans b8
            have HQ9 := HQ.grown g8 (by simp; omega)
            have HA9 := HA8
            have c8 := cell_grown cX g8 (by omega) hbX
            refine hK.out _ _ ?_ (fun hHeld => ?_)
            · exact c8
            clear hK K
            (try simp only [Act.put, List.getElem_toArray, List.getElem_cons_zero, List.getElem_cons_succ, List.setIfInBounds_toArray, List.set_cons_zero, List.set_cons_succ])
            refine wpAnyH_take (i := 10) (v := ?_) rfl (by kernel_rfl) (by kernel_rfl) (by kernel_rfl) (fun _ _ _ h => h) (Or.inl ⟨by rfl, ?_⟩) (by assumption) ?_
            rotate_left
            · (intro w hSw; (try dsimp only at hSw); go_simp; (try with_reducible rfl))
            (try simp only [Act.put, List.getElem_toArray, List.getElem_cons_zero, List.getElem_cons_succ, List.setIfInBounds_toArray, List.set_cons_zero, List.set_cons_succ])
            refine wpAnyH_done (by kernel_rfl) ?_ _
            refine NoPanic.normal ?_
            go_wp2_with fail
            (try simp only [Exit.inBlock, Exit.then])
            refine bodyPost_ret (results_blk_tmp rfl rfl HA9 (by kernel_rfl) (by kernel_rfl)) rfl ?_
            rw [HRB.out]
            exact ⟨zLdA, _, rfl, zLd_in _, Or.inr ⟨hVV.out, G, rfl, HQ9⟩, E9⟩
          · have E6 : Below w.heap.size w w6 := E2.trans (B6.mono (Nat.le_of_lt hA2))
            have hA6 : w.heap.size < w6.heap.size := HA6.lt
            have hb6 : b2 < w6.heap.size := by have := B6.size; have := E2.size; omega
            simp only [List.getElem_toArray, List.getElem_cons_zero, List.getElem_cons_succ]
            rw [if_pos (by rfl)]
            refine wp_store_op (k := 0) 29 (.agg (ldC zLd zLdA)) (ldC zLd zLdA) (by rfl) rfl rfl (show Blk w6.drew w.heap.size 29 (ldC zLd zLdA) from HA6) (by kernel_rfl) (Nat.le_of_eq rfl) (by rfl) (st_whole _ _ rfl) (fun w7 HA8 b8 g8 => ?_)
            have E7 : Below w.heap.size w w7 := (Below.drew E6).trans b8
            have c7 := cell_grown (show w6.drew.cell? ⟨b2, lo2 + k, none⟩ = _ from c6s) g8 (by omega) hb6
            replace hb6 : b2 < w7.heap.size := Nat.lt_of_lt_of_le hb6 g8.size
            replace hA6 : w.heap.size < w7.heap.size := Nat.lt_of_lt_of_le hA6 g8.size
            refine hK.out _ _ ?_ (fun hHeld => ?_)
            · exact c7
            clear hK K
            (try simp only [Act.put, List.getElem_toArray, List.getElem_cons_zero, List.getElem_cons_succ, List.setIfInBounds_toArray, List.set_cons_zero, List.set_cons_succ])
            refine wpAnyH_ready (rs := [7]) (by kernel_rfl) (by simp) ?_
            refine AllReadyH.cons rfl (fun K hK => ?_) AllReadyH.nil
            simp only [List.getElem_toArray, List.getElem_cons_zero, List.getElem_cons_succ]
            rw [if_pos (by rfl)]
            go_simp
            have HQ := Blk.new w7 104 #[.int .i64 V, .int .i64 (ak : Nat)]
            have HAx := (show Blk w7 w.heap.size 29 (ldC zLd zLdA) from HA8).alloc (.cells #[.int .i64 V, .int .i64 (ak : Nat)] 104)
            have EX : Below w.heap.size w (w7.alloc (.cells #[.int .i64 V, .int .i64 (ak : Nat)] 104)) := E7.alloc E7.size _
            have cX : (w7.alloc (.cells #[.int .i64 V, .int .i64 (ak : Nat)] 104)).cell? ⟨b2, lo2 + k, none⟩ = some (.int .i64 (ak : Nat)) := cell_alloc c7 (show b2 < w7.heap.size from hb6)
            have hGA : w.heap.size < w7.heap.size := hA6
            have hbX : b2 < (w7.alloc (.cells #[.int .i64 V, .int .i64 (ak : Nat)] 104)).heap.size := by simp; omega
            generalize w7.alloc (.cells #[.int .i64 V, .int .i64 (ak : Nat)] 104) = w8 at *
            generalize w7.heap.size = G at *
            have HA9 := HAx
            have HQ9 := HQ
            have E9 := EX
            refine hK.out _ _ ?_ (fun hHeld => ?_)
            · exact cX
            clear hK K
            (try simp only [Act.put, List.getElem_toArray, List.getElem_cons_zero, List.getElem_cons_succ, List.setIfInBounds_toArray, List.set_cons_zero, List.set_cons_succ])
            refine wpAnyH_take (i := 8) (v := ?_) rfl (by kernel_rfl) (by kernel_rfl) (by kernel_rfl) (fun _ _ _ h => h) (Or.inl ⟨by rfl, ?_⟩) (by assumption) ?_
            rotate_left
            · (intro w hSw; (try dsimp only at hSw); go_simp; (try with_reducible rfl))
            (try simp only [Act.put, List.getElem_toArray, List.getElem_cons_zero, List.getElem_cons_succ, List.setIfInBounds_toArray, List.set_cons_zero, List.set_cons_succ])
            refine wpAnyH_take (i := 10) (v := ?_) rfl (by kernel_rfl) (by kernel_rfl) (by kernel_rfl) (fun _ _ _ h => h) (Or.inl ⟨by rfl, ?_⟩) (by assumption) ?_
            rotate_left
            · (intro w hSw; (try dsimp only at hSw); go_simp; (try with_reducible rfl))
            (try simp only [Act.put, List.getElem_toArray, List.getElem_cons_zero, List.getElem_cons_succ, List.setIfInBounds_toArray, List.set_cons_zero, List.set_cons_succ])
            refine wpAnyH_done (by kernel_rfl) ?_ _
            refine NoPanic.normal ?_
            go_wp2_with fail
            (try simp only [Exit.inBlock, Exit.then])
            refine bodyPost_ret (results_blk_tmp rfl rfl HA9 (by kernel_rfl) (by kernel_rfl)) rfl ?_
            rw [HRB.out]
            exact ⟨zLdA, _, rfl, zLd_in _, Or.inr ⟨hVV.out, G, rfl, HQ9⟩, E9⟩
      · obtain rfl : k = l.length := by omega
        have q2 : decide ((l.length : Int) < (l.length : Int)) = false := decide_eq_false (by omega)
        have HAr := HA2.below Bk hA2
        have Er := E2.trans (Bk.mono (Nat.le_of_lt hA2))
        have hRe := hRk.out
        rw [ldAtK_end] at hRe
        rw [List.take_length] at HAk
        have hDr : D ≤ wr.heap.size := by have := Bk.size; omega
        by_cases h3 : l.length < 3
        · have q4 : decide ((l.length : Int) < 3) = true := decide_eq_true (by omega)
          have q5 : (l.length : Int) < 3 := by omega
          rw [if_pos h3] at hRe
          have HRE := Lib.hid hRe
          have HAx := HAr.alloc (.cells #[.int .i64 7, .int .i64 (e : Nat)] 104)
          have HQ := Blk.new wr 104 #[.int .i64 7, .int .i64 (e : Nat)]
          have Ex := Er.alloc Er.size (.cells #[.int .i64 7, .int .i64 (e : Nat)] 104)
          have hGA : w.heap.size < wr.heap.size := HAr.lt
          clear hRe h3 HCk HAk hok has HL HS hbA hv
          go_wp2_with (first
            | (refine build_blk (t := 29) (ldC zLd zLdA) (by rfl) rfl (by kernel_rfl) ?_)
            | (refine store_blk (k := 0) 29 (.agg (ldC zLd zLdA)) (ldC zLd zLdA) (by rfl) rfl rfl rfl HAx (by kernel_rfl) (Nat.le_of_eq rfl) (by rfl) (st_whole _ _ rfl) ?_; intro w8 HA8 b8 g8))
          refine bodyPost_ret (results_blk_tmp rfl rfl HA8 (by kernel_rfl) (by kernel_rfl)) rfl ?_
          rw [HRE.out]
          exact ⟨zLdA, _, rfl, zLd_in _, Or.inr ⟨by show (7 : Int) ≠ 0; decide, wr.heap.size, rfl, HQ.grown g8 (by simp; omega)⟩, Ex.trans b8⟩
        · have q4 : decide ((l.length : Int) < 3) = false := decide_eq_false (by omega)
          have q5 : ¬ (l.length : Int) < 3 := by omega
          have q6 : decide (l.length < 3) = false := decide_eq_false h3
          rw [if_neg h3] at hRe
          have HRE := Lib.hid hRe
          obtain ⟨q, HBk, o1, o2, o3, o4, o5, o6⟩ := HAk
          clear hRe h3 HCk hok has HL HS hbA hv
          generalize ldVal l = y at *
          go_wp2_with (first
            | (refine load_blk (k := 0) 29 (ldC y q) (by rfl) rfl rfl HBk (by kernel_rfl) (by kernel_rfl) rfl ?_)
            | (refine store_blk (k := 0) 29 (.agg (ldC y q)) (ldC y q) (by rfl) rfl rfl rfl HAr (by kernel_rfl) (Nat.le_of_eq rfl) (by rfl) (st_whole _ _ rfl) ?_; intro w8 HA8 b8 g8))
          refine bodyPost_ret (results_blk_tmp rfl rfl HA8 (by kernel_rfl) (by kernel_rfl)) rfl ?_
          rw [HRE.out]
          exact ⟨q, _, rfl, rows_inn (o1.other HAr (by decide) g8) (o2.other HAr (by decide) g8) (o3.other HAr (by decide) g8) (o4.other HAr (by decide) g8) (o5.other HAr (by decide) g8) (o6.other HAr (by decide) g8), Or.inl ⟨rfl, rfl, rfl⟩, Er.trans b8⟩

end Go.Proofs.YtcijhmbimbejfaaGreatDoor

namespace Go.Proofs.YtcijhmbimbejfaaGreatDoor
open Go.RowKit
attribute [local go_sem ↓] Go.wp_at_zero Go.wp_at_succ
set_option linter.unusedSimpArgs false
set_option linter.unusedVariables false
set_option maxRecDepth 100000

theorem CellsAt.drewE {w : World} {B o : Nat} {X : Array Value} (h : CellsAt w B o X) : CellsAt w.drew B o X := h
set_option maxHeartbeats 6400000 in
/-- slices.Equal of lists of texts that are the same. -/
theorem eqSts_any (a1 : Option Addr) (c1 : Nat) (a2 : Option Addr) (c2 : Nat) (l : List ByteArray) (w : World) (h1 : StIn w a1 l) (h2 : StIn w a2 l) (hlen : l.length ≤ 1000000) :
    Calls Tryz.prog 28 #[.slice a1 l.length c1, .slice a2 l.length c2] w fun e w' => e = .returned (.bool true) ∧ Below w.heap.size w w' := by
  go_enter Tryz.func28, Tryz.ntmps28
  go_wp2_with fail
  go_loopw [13] (fun i wr => ∃ k : Nat, k ≤ l.length ∧ i = .int .i64 k ∧ Below w.heap.size w wr) (fun i _ => l.length - (intOf i).toNat)
  case atStart => exact ⟨0, by omega, rfl, Below.refl _ _⟩
  case round =>
    obtain ⟨k, hk, rfl, hb⟩ := hrel
    by_cases hlt : k < l.length
    · obtain ⟨b1, o1, rfl, hb1, hat1⟩ := h1.at hlt
      obtain ⟨b2, o2, rfl, hb2, hat2⟩ := h2.at hlt
      have q1 : (k : Int) < (l.length : Int) := by omega
      have q2 : decide ((k : Int) < (l.length : Int)) = true := decide_eq_true q1
      have q3 : (0 : Int) ≤ (k : Int) := by omega
      have HK1 : wr.cell? ⟨b1, o1 + k, none⟩ = some (.string l[k]) := by
        have q := ((hat1 k hlt).below hb hb1) 0 (.string l[k]) rfl
        rw [Nat.mul_one, Nat.add_zero] at q
        exact q
      have HK2 : wr.cell? ⟨b2, o2 + k, none⟩ = some (.string l[k]) := by
        have q := ((hat2 k hlt).below hb hb2) 0 (.string l[k]) rfl
        rw [Nat.mul_one, Nat.add_zero] at q
        exact q
      generalize l[k] = z at *
      have e1 : (z.toList != z.toList) = false := by simp
      have e2 : (z.toList == z.toList) = true := beq_iff_eq.2 rfl
      clear hat1 hat2
      go_upto_region 6 with (fail)
      refine wp_region_noPanic ?_
      refine wp_region_held_drew (S := (fun w' => w'.cell? ⟨b1, o1 + k, none⟩ = some (.string z) ∧ w'.cell? ⟨b2, o2 + k, none⟩ = some (.string z))) (by kernel_rfl) ?_ (fun hHeld => ?_)
      · exact ⟨HK1, HK2⟩
      refine wpAnyH_take (i := 0) (v := ?_) rfl (by kernel_rfl) (by kernel_rfl) (by kernel_rfl) (fun _ _ _ h => h) (Or.inl ⟨by rfl, ?_⟩) (by assumption) ?_
      rotate_left
      · (intro w hSw; (try dsimp only at hSw); go_simp; (try with_reducible rfl))
      (try simp only [Act.put, List.getElem_toArray, List.getElem_cons_zero, List.getElem_cons_succ, List.setIfInBounds_toArray, List.set_cons_zero, List.set_cons_succ])
      refine wpAnyH_take (i := 1) (v := ?_) rfl (by kernel_rfl) (by kernel_rfl) (by kernel_rfl) (fun _ _ _ h => h) (Or.inl ⟨by rfl, ?_⟩) (by assumption) ?_
      rotate_left
      · (intro w hSw; (try dsimp only at hSw); go_simp; (try with_reducible rfl))
      (try simp only [Act.put, List.getElem_toArray, List.getElem_cons_zero, List.getElem_cons_succ, List.setIfInBounds_toArray, List.set_cons_zero, List.set_cons_succ])
      refine wpAnyH_take (i := 2) (v := ?_) rfl (by kernel_rfl) (by kernel_rfl) (by kernel_rfl) (fun _ _ _ h => h) (Or.inl ⟨by rfl, ?_⟩) (by assumption) ?_
      rotate_left
      · (intro w hSw; (try dsimp only at hSw); go_simp; (try with_reducible rfl))
      (try simp only [Act.put, List.getElem_toArray, List.getElem_cons_zero, List.getElem_cons_succ, List.setIfInBounds_toArray, List.set_cons_zero, List.set_cons_succ])
      refine wpAnyH_take (i := 3) (v := .string z) rfl (by kernel_rfl) (by kernel_rfl) (by kernel_rfl) (fun _ _ _ h => h) (Or.inl ⟨by rfl, fun w hSw => by have c := hSw.1; go_simp⟩) (by assumption) ?_
      (try simp only [Act.put, List.getElem_toArray, List.getElem_cons_zero, List.getElem_cons_succ, List.setIfInBounds_toArray, List.set_cons_zero, List.set_cons_succ])
      refine wpAnyH_take (i := 4) (v := ?_) rfl (by kernel_rfl) (by kernel_rfl) (by kernel_rfl) (fun _ _ _ h => h) (Or.inl ⟨by rfl, ?_⟩) (by assumption) ?_
      rotate_left
      · (intro w hSw; (try dsimp only at hSw); go_simp; (try with_reducible rfl))
      (try simp only [Act.put, List.getElem_toArray, List.getElem_cons_zero, List.getElem_cons_succ, List.setIfInBounds_toArray, List.set_cons_zero, List.set_cons_succ])
      refine wpAnyH_take (i := 5) (v := ?_) rfl (by kernel_rfl) (by kernel_rfl) (by kernel_rfl) (fun _ _ _ h => h) (Or.inl ⟨by rfl, ?_⟩) (by assumption) ?_
      rotate_left
      · (intro w hSw; (try dsimp only at hSw); go_simp; (try with_reducible rfl))
      (try simp only [Act.put, List.getElem_toArray, List.getElem_cons_zero, List.getElem_cons_succ, List.setIfInBounds_toArray, List.set_cons_zero, List.set_cons_succ])
      refine wpAnyH_take (i := 6) (v := ?_) rfl (by kernel_rfl) (by kernel_rfl) (by kernel_rfl) (fun _ _ _ h => h) (Or.inl ⟨by rfl, ?_⟩) (by assumption) ?_
      rotate_left
      · (intro w hSw; (try dsimp only at hSw); go_simp; (try with_reducible rfl))
      (try simp only [Act.put, List.getElem_toArray, List.getElem_cons_zero, List.getElem_cons_succ, List.setIfInBounds_toArray, List.set_cons_zero, List.set_cons_succ])
      refine wpAnyH_take (i := 7) (v := .string z) rfl (by kernel_rfl) (by kernel_rfl) (by kernel_rfl) (fun _ _ _ h => h) (Or.inl ⟨by rfl, fun w hSw => by have c := hSw.2; go_simp⟩) (by assumption) ?_
      (try simp only [Act.put, List.getElem_toArray, List.getElem_cons_zero, List.getElem_cons_succ, List.setIfInBounds_toArray, List.set_cons_zero, List.set_cons_succ])
      refine wpAnyH_take (i := 8) (v := ?_) rfl (by kernel_rfl) (by kernel_rfl) (by kernel_rfl) (fun _ _ _ h => h) (Or.inl ⟨by rfl, ?_⟩) (by assumption) ?_
      rotate_left
      · (intro w hSw; (try dsimp only at hSw); go_simp; (try with_reducible rfl))
      (try simp only [Act.put, List.getElem_toArray, List.getElem_cons_zero, List.getElem_cons_succ, List.setIfInBounds_toArray, List.set_cons_zero, List.set_cons_succ])
      refine wpAnyH_done (by kernel_rfl) ?_ _
      refine NoPanic.normal ?_
      have hbd := hb.drew
      go_wp2
      go_roundw
      case rel => exact ⟨k + 1, by omega, by go_num, hbd⟩
      case measure => simp [intOf]; omega
    · obtain rfl : k = l.length := by omega
      have q2 : decide ((l.length : Int) < (l.length : Int)) = false := decide_eq_false (by omega)
      go_wp2
      go_ret
      exact ⟨rfl, hb⟩

set_option maxHeartbeats 6400000 in
theorem eqCps_any (a1 : Option Addr) (c1 : Nat) (a2 : Option Addr) (c2 : Nat) (l : List Cp) (w : World) (h1 : CpIn w a1 l) (h2 : CpIn w a2 l) (hlen : l.length ≤ 1000000) :
    Calls Tryz.prog 29 #[.slice a1 l.length c1, .slice a2 l.length c2] w fun e w' => e = .returned (.bool true) ∧ Below w.heap.size w w' := by
  go_enter Tryz.func29, Tryz.ntmps29
  go_wp2_with fail
  go_loopw [13] (fun i wr => ∃ k : Nat, k ≤ l.length ∧ i = .int .i64 k ∧ Below w.heap.size w wr) (fun i _ => l.length - (intOf i).toNat)
  case atStart => exact ⟨0, by omega, rfl, Below.refl _ _⟩
  case round =>
    obtain ⟨k, hk, rfl, hb⟩ := hrel
    by_cases hlt : k < l.length
    · obtain ⟨b1, o1, rfl, hb1, hat1⟩ := h1.at hlt
      obtain ⟨b2, o2, rfl, hb2, hat2⟩ := h2.at hlt
      have q1 : (k : Int) < (l.length : Int) := by omega
      have q2 : decide ((k : Int) < (l.length : Int)) = true := decide_eq_true q1
      have q3 : (0 : Int) ≤ (k : Int) := by omega
      have HK1 := (hat1 k hlt).below hb hb1
      have HK2 := (hat2 k hlt).below hb hb2
      have HEQ := fun W => cp_same l[k] W
      generalize l[k] = x at *
      go_upto_region 6 with (fail)
      refine wp_region_noPanic ?_
      refine wp_region_held_drew (S := (fun w' => CellsAt w' b1 (o1 + k * 2) (cpC x) ∧ CellsAt w' b2 (o2 + k * 2) (cpC x))) (by kernel_rfl) ?_ (fun hHeld => ?_)
      · exact ⟨HK1.drewE, HK2.drewE⟩
      refine wpAnyH_take (i := 0) (v := ?_) rfl (by kernel_rfl) (by kernel_rfl) (by kernel_rfl) (fun _ _ _ h => h) (Or.inl ⟨by rfl, ?_⟩) (by assumption) ?_
      rotate_left
      · (intro w hSw; (try dsimp only at hSw); go_simp; (try with_reducible rfl))
      (try simp only [Act.put, List.getElem_toArray, List.getElem_cons_zero, List.getElem_cons_succ, List.setIfInBounds_toArray, List.set_cons_zero, List.set_cons_succ])
      refine wpAnyH_take (i := 1) (v := ?_) rfl (by kernel_rfl) (by kernel_rfl) (by kernel_rfl) (fun _ _ _ h => h) (Or.inl ⟨by rfl, ?_⟩) (by assumption) ?_
      rotate_left
      · (intro w hSw; (try dsimp only at hSw); go_simp; (try with_reducible rfl))
      (try simp only [Act.put, List.getElem_toArray, List.getElem_cons_zero, List.getElem_cons_succ, List.setIfInBounds_toArray, List.set_cons_zero, List.set_cons_succ])
      refine wpAnyH_take (i := 2) (v := ?_) rfl (by kernel_rfl) (by kernel_rfl) (by kernel_rfl) (fun _ _ _ h => h) (Or.inl ⟨by rfl, ?_⟩) (by assumption) ?_
      rotate_left
      · (intro w hSw; (try dsimp only at hSw); go_simp; (try with_reducible rfl))
      (try simp only [Act.put, List.getElem_toArray, List.getElem_cons_zero, List.getElem_cons_succ, List.setIfInBounds_toArray, List.set_cons_zero, List.set_cons_succ])
      refine wpAnyH_take (i := 3) (v := .agg (cpC x)) rfl (by kernel_rfl) (by kernel_rfl) (by kernel_rfl) (fun _ _ _ h => h) (Or.inl ⟨by rfl, fun w hSw => exec_load_cells 91 (cpC x) rfl rfl hSw.1 (by kernel_rfl) (by kernel_rfl)⟩) (by assumption) ?_
      (try simp only [Act.put, List.getElem_toArray, List.getElem_cons_zero, List.getElem_cons_succ, List.setIfInBounds_toArray, List.set_cons_zero, List.set_cons_succ])
      refine wpAnyH_take (i := 4) (v := ?_) rfl (by kernel_rfl) (by kernel_rfl) (by kernel_rfl) (fun _ _ _ h => h) (Or.inl ⟨by rfl, ?_⟩) (by assumption) ?_
      rotate_left
      · (intro w hSw; (try dsimp only at hSw); go_simp; (try with_reducible rfl))
      (try simp only [Act.put, List.getElem_toArray, List.getElem_cons_zero, List.getElem_cons_succ, List.setIfInBounds_toArray, List.set_cons_zero, List.set_cons_succ])
      refine wpAnyH_take (i := 5) (v := ?_) rfl (by kernel_rfl) (by kernel_rfl) (by kernel_rfl) (fun _ _ _ h => h) (Or.inl ⟨by rfl, ?_⟩) (by assumption) ?_
      rotate_left
      · (intro w hSw; (try dsimp only at hSw); go_simp; (try with_reducible rfl))
      (try simp only [Act.put, List.getElem_toArray, List.getElem_cons_zero, List.getElem_cons_succ, List.setIfInBounds_toArray, List.set_cons_zero, List.set_cons_succ])
      refine wpAnyH_take (i := 6) (v := ?_) rfl (by kernel_rfl) (by kernel_rfl) (by kernel_rfl) (fun _ _ _ h => h) (Or.inl ⟨by rfl, ?_⟩) (by assumption) ?_
      rotate_left
      · (intro w hSw; (try dsimp only at hSw); go_simp; (try with_reducible rfl))
      (try simp only [Act.put, List.getElem_toArray, List.getElem_cons_zero, List.getElem_cons_succ, List.setIfInBounds_toArray, List.set_cons_zero, List.set_cons_succ])
      refine wpAnyH_take (i := 7) (v := .agg (cpC x)) rfl (by kernel_rfl) (by kernel_rfl) (by kernel_rfl) (fun _ _ _ h => h) (Or.inl ⟨by rfl, fun w hSw => exec_load_cells 91 (cpC x) rfl rfl hSw.2 (by kernel_rfl) (by kernel_rfl)⟩) (by assumption) ?_
      (try simp only [Act.put, List.getElem_toArray, List.getElem_cons_zero, List.getElem_cons_succ, List.setIfInBounds_toArray, List.set_cons_zero, List.set_cons_succ])
      refine wpAnyH_take (i := 8) (v := .bool false) rfl (by kernel_rfl) (by kernel_rfl) (by kernel_rfl) (fun _ _ _ h => h) (Or.inl ⟨by rfl, fun w hSw => exec_eq_agg .neq 91 (cpC x) (cpC x) true rfl (Or.inr rfl) rfl rfl (by kernel_rfl) (HEQ w)⟩) (by assumption) ?_
      (try simp only [Act.put, List.getElem_toArray, List.getElem_cons_zero, List.getElem_cons_succ, List.setIfInBounds_toArray, List.set_cons_zero, List.set_cons_succ])
      refine wpAnyH_done (by kernel_rfl) ?_ _
      refine NoPanic.normal ?_
      have hbd := hb.drew
      go_wp2
      go_roundw
      case rel => exact ⟨k + 1, by omega, by go_num, hbd⟩
      case measure => simp [intOf]; omega
    · obtain rfl : k = l.length := by omega
      have q2 : decide ((l.length : Int) < (l.length : Int)) = false := decide_eq_false (by omega)
      go_wp2
      go_ret
      exact ⟨rfl, hb⟩
set_option maxHeartbeats 6400000 in
theorem eqMgs_any (a1 : Option Addr) (c1 : Nat) (a2 : Option Addr) (c2 : Nat) (l : List Mg) (w : World) (h1 : MgIn w a1 l) (h2 : MgIn w a2 l) (hlen : l.length ≤ 1000000) :
    Calls Tryz.prog 30 #[.slice a1 l.length c1, .slice a2 l.length c2] w fun e w' => e = .returned (.bool true) ∧ Below w.heap.size w w' := by
  go_enter Tryz.func30, Tryz.ntmps30
  go_wp2_with fail
  go_loopw [13] (fun i wr => ∃ k : Nat, k ≤ l.length ∧ i = .int .i64 k ∧ Below w.heap.size w wr) (fun i _ => l.length - (intOf i).toNat)
  case atStart => exact ⟨0, by omega, rfl, Below.refl _ _⟩
  case round =>
    obtain ⟨k, hk, rfl, hb⟩ := hrel
    by_cases hlt : k < l.length
    · obtain ⟨b1, o1, rfl, hb1, hat1⟩ := h1.at hlt
      obtain ⟨b2, o2, rfl, hb2, hat2⟩ := h2.at hlt
      have q1 : (k : Int) < (l.length : Int) := by omega
      have q2 : decide ((k : Int) < (l.length : Int)) = true := decide_eq_true q1
      have q3 : (0 : Int) ≤ (k : Int) := by omega
      have HK1 := (hat1 k hlt).below hb hb1
      have HK2 := (hat2 k hlt).below hb hb2
      have HEQ := fun W => mg_same l[k] W
      generalize l[k] = x at *
      go_upto_region 6 with (fail)
      refine wp_region_noPanic ?_
      refine wp_region_held_drew (S := (fun w' => CellsAt w' b1 (o1 + k * 5) (mgC x) ∧ CellsAt w' b2 (o2 + k * 5) (mgC x))) (by kernel_rfl) ?_ (fun hHeld => ?_)
      · exact ⟨HK1.drewE, HK2.drewE⟩
      refine wpAnyH_take (i := 0) (v := ?_) rfl (by kernel_rfl) (by kernel_rfl) (by kernel_rfl) (fun _ _ _ h => h) (Or.inl ⟨by rfl, ?_⟩) (by assumption) ?_
      rotate_left
      · (intro w hSw; (try dsimp only at hSw); go_simp; (try with_reducible rfl))
      (try simp only [Act.put, List.getElem_toArray, List.getElem_cons_zero, List.getElem_cons_succ, List.setIfInBounds_toArray, List.set_cons_zero, List.set_cons_succ])
      refine wpAnyH_take (i := 1) (v := ?_) rfl (by kernel_rfl) (by kernel_rfl) (by kernel_rfl) (fun _ _ _ h => h) (Or.inl ⟨by rfl, ?_⟩) (by assumption) ?_
      rotate_left
      · (intro w hSw; (try dsimp only at hSw); go_simp; (try with_reducible rfl))
      (try simp only [Act.put, List.getElem_toArray, List.getElem_cons_zero, List.getElem_cons_succ, List.setIfInBounds_toArray, List.set_cons_zero, List.set_cons_succ])
      refine wpAnyH_take (i := 2) (v := ?_) rfl (by kernel_rfl) (by kernel_rfl) (by kernel_rfl) (fun _ _ _ h => h) (Or.inl ⟨by rfl, ?_⟩) (by assumption) ?_
      rotate_left
      · (intro w hSw; (try dsimp only at hSw); go_simp; (try with_reducible rfl))
      (try simp only [Act.put, List.getElem_toArray, List.getElem_cons_zero, List.getElem_cons_succ, List.setIfInBounds_toArray, List.set_cons_zero, List.set_cons_succ])
      refine wpAnyH_take (i := 3) (v := .agg (mgC x)) rfl (by kernel_rfl) (by kernel_rfl) (by kernel_rfl) (fun _ _ _ h => h) (Or.inl ⟨by rfl, fun w hSw => exec_load_cells 94 (mgC x) rfl rfl hSw.1 (by kernel_rfl) (by kernel_rfl)⟩) (by assumption) ?_
      (try simp only [Act.put, List.getElem_toArray, List.getElem_cons_zero, List.getElem_cons_succ, List.setIfInBounds_toArray, List.set_cons_zero, List.set_cons_succ])
      refine wpAnyH_take (i := 4) (v := ?_) rfl (by kernel_rfl) (by kernel_rfl) (by kernel_rfl) (fun _ _ _ h => h) (Or.inl ⟨by rfl, ?_⟩) (by assumption) ?_
      rotate_left
      · (intro w hSw; (try dsimp only at hSw); go_simp; (try with_reducible rfl))
      (try simp only [Act.put, List.getElem_toArray, List.getElem_cons_zero, List.getElem_cons_succ, List.setIfInBounds_toArray, List.set_cons_zero, List.set_cons_succ])
      refine wpAnyH_take (i := 5) (v := ?_) rfl (by kernel_rfl) (by kernel_rfl) (by kernel_rfl) (fun _ _ _ h => h) (Or.inl ⟨by rfl, ?_⟩) (by assumption) ?_
      rotate_left
      · (intro w hSw; (try dsimp only at hSw); go_simp; (try with_reducible rfl))
      (try simp only [Act.put, List.getElem_toArray, List.getElem_cons_zero, List.getElem_cons_succ, List.setIfInBounds_toArray, List.set_cons_zero, List.set_cons_succ])
      refine wpAnyH_take (i := 6) (v := ?_) rfl (by kernel_rfl) (by kernel_rfl) (by kernel_rfl) (fun _ _ _ h => h) (Or.inl ⟨by rfl, ?_⟩) (by assumption) ?_
      rotate_left
      · (intro w hSw; (try dsimp only at hSw); go_simp; (try with_reducible rfl))
      (try simp only [Act.put, List.getElem_toArray, List.getElem_cons_zero, List.getElem_cons_succ, List.setIfInBounds_toArray, List.set_cons_zero, List.set_cons_succ])
      refine wpAnyH_take (i := 7) (v := .agg (mgC x)) rfl (by kernel_rfl) (by kernel_rfl) (by kernel_rfl) (fun _ _ _ h => h) (Or.inl ⟨by rfl, fun w hSw => exec_load_cells 94 (mgC x) rfl rfl hSw.2 (by kernel_rfl) (by kernel_rfl)⟩) (by assumption) ?_
      (try simp only [Act.put, List.getElem_toArray, List.getElem_cons_zero, List.getElem_cons_succ, List.setIfInBounds_toArray, List.set_cons_zero, List.set_cons_succ])
      refine wpAnyH_take (i := 8) (v := .bool false) rfl (by kernel_rfl) (by kernel_rfl) (by kernel_rfl) (fun _ _ _ h => h) (Or.inl ⟨by rfl, fun w hSw => exec_eq_agg .neq 94 (mgC x) (mgC x) true rfl (Or.inr rfl) rfl rfl (by kernel_rfl) (HEQ w)⟩) (by assumption) ?_
      (try simp only [Act.put, List.getElem_toArray, List.getElem_cons_zero, List.getElem_cons_succ, List.setIfInBounds_toArray, List.set_cons_zero, List.set_cons_succ])
      refine wpAnyH_done (by kernel_rfl) ?_ _
      refine NoPanic.normal ?_
      have hbd := hb.drew
      go_wp2
      go_roundw
      case rel => exact ⟨k + 1, by omega, by go_num, hbd⟩
      case measure => simp [intOf]; omega
    · obtain rfl : k = l.length := by omega
      have q2 : decide ((l.length : Int) < (l.length : Int)) = false := decide_eq_false (by omega)
      go_wp2
      go_ret
      exact ⟨rfl, hb⟩
set_option maxHeartbeats 6400000 in
theorem eqOgs_any (a1 : Option Addr) (c1 : Nat) (a2 : Option Addr) (c2 : Nat) (l : List Og) (w : World) (h1 : OgIn w a1 l) (h2 : OgIn w a2 l) (hlen : l.length ≤ 1000000) :
    Calls Tryz.prog 31 #[.slice a1 l.length c1, .slice a2 l.length c2] w fun e w' => e = .returned (.bool true) ∧ Below w.heap.size w w' := by
  go_enter Tryz.func31, Tryz.ntmps31
  go_wp2_with fail
  go_loopw [13] (fun i wr => ∃ k : Nat, k ≤ l.length ∧ i = .int .i64 k ∧ Below w.heap.size w wr) (fun i _ => l.length - (intOf i).toNat)
  case atStart => exact ⟨0, by omega, rfl, Below.refl _ _⟩
  case round =>
    obtain ⟨k, hk, rfl, hb⟩ := hrel
    by_cases hlt : k < l.length
    · obtain ⟨b1, o1, rfl, hb1, hat1⟩ := h1.at hlt
      obtain ⟨b2, o2, rfl, hb2, hat2⟩ := h2.at hlt
      have q1 : (k : Int) < (l.length : Int) := by omega
      have q2 : decide ((k : Int) < (l.length : Int)) = true := decide_eq_true q1
      have q3 : (0 : Int) ≤ (k : Int) := by omega
      have HK1 := (hat1 k hlt).below hb hb1
      have HK2 := (hat2 k hlt).below hb hb2
      have HEQ := fun W => og_same l[k] W
      generalize l[k] = x at *
      go_upto_region 6 with (fail)
      refine wp_region_noPanic ?_
      refine wp_region_held_drew (S := (fun w' => CellsAt w' b1 (o1 + k * 3) (ogC x) ∧ CellsAt w' b2 (o2 + k * 3) (ogC x))) (by kernel_rfl) ?_ (fun hHeld => ?_)
      · exact ⟨HK1.drewE, HK2.drewE⟩
      refine wpAnyH_take (i := 0) (v := ?_) rfl (by kernel_rfl) (by kernel_rfl) (by kernel_rfl) (fun _ _ _ h => h) (Or.inl ⟨by rfl, ?_⟩) (by assumption) ?_
      rotate_left
      · (intro w hSw; (try dsimp only at hSw); go_simp; (try with_reducible rfl))
      (try simp only [Act.put, List.getElem_toArray, List.getElem_cons_zero, List.getElem_cons_succ, List.setIfInBounds_toArray, List.set_cons_zero, List.set_cons_succ])
      refine wpAnyH_take (i := 1) (v := ?_) rfl (by kernel_rfl) (by kernel_rfl) (by kernel_rfl) (fun _ _ _ h => h) (Or.inl ⟨by rfl, ?_⟩) (by assumption) ?_
      rotate_left
      · (intro w hSw; (try dsimp only at hSw); go_simp; (try with_reducible rfl))
      (try simp only [Act.put, List.getElem_toArray, List.getElem_cons_zero, List.getElem_cons_succ, List.setIfInBounds_toArray, List.set_cons_zero, List.set_cons_succ])
      refine wpAnyH_take (i := 2) (v := ?_) rfl (by kernel_rfl) (by kernel_rfl) (by kernel_rfl) (fun _ _ _ h => h) (Or.inl ⟨by rfl, ?_⟩) (by assumption) ?_
      rotate_left
      · (intro w hSw; (try dsimp only at hSw); go_simp; (try with_reducible rfl))
      (try simp only [Act.put, List.getElem_toArray, List.getElem_cons_zero, List.getElem_cons_succ, List.setIfInBounds_toArray, List.set_cons_zero, List.set_cons_succ])
      refine wpAnyH_take (i := 3) (v := .agg (ogC x)) rfl (by kernel_rfl) (by kernel_rfl) (by kernel_rfl) (fun _ _ _ h => h) (Or.inl ⟨by rfl, fun w hSw => exec_load_cells 116 (ogC x) rfl rfl hSw.1 (by kernel_rfl) (by kernel_rfl)⟩) (by assumption) ?_
      (try simp only [Act.put, List.getElem_toArray, List.getElem_cons_zero, List.getElem_cons_succ, List.setIfInBounds_toArray, List.set_cons_zero, List.set_cons_succ])
      refine wpAnyH_take (i := 4) (v := ?_) rfl (by kernel_rfl) (by kernel_rfl) (by kernel_rfl) (fun _ _ _ h => h) (Or.inl ⟨by rfl, ?_⟩) (by assumption) ?_
      rotate_left
      · (intro w hSw; (try dsimp only at hSw); go_simp; (try with_reducible rfl))
      (try simp only [Act.put, List.getElem_toArray, List.getElem_cons_zero, List.getElem_cons_succ, List.setIfInBounds_toArray, List.set_cons_zero, List.set_cons_succ])
      refine wpAnyH_take (i := 5) (v := ?_) rfl (by kernel_rfl) (by kernel_rfl) (by kernel_rfl) (fun _ _ _ h => h) (Or.inl ⟨by rfl, ?_⟩) (by assumption) ?_
      rotate_left
      · (intro w hSw; (try dsimp only at hSw); go_simp; (try with_reducible rfl))
      (try simp only [Act.put, List.getElem_toArray, List.getElem_cons_zero, List.getElem_cons_succ, List.setIfInBounds_toArray, List.set_cons_zero, List.set_cons_succ])
      refine wpAnyH_take (i := 6) (v := ?_) rfl (by kernel_rfl) (by kernel_rfl) (by kernel_rfl) (fun _ _ _ h => h) (Or.inl ⟨by rfl, ?_⟩) (by assumption) ?_
      rotate_left
      · (intro w hSw; (try dsimp only at hSw); go_simp; (try with_reducible rfl))
      (try simp only [Act.put, List.getElem_toArray, List.getElem_cons_zero, List.getElem_cons_succ, List.setIfInBounds_toArray, List.set_cons_zero, List.set_cons_succ])
      refine wpAnyH_take (i := 7) (v := .agg (ogC x)) rfl (by kernel_rfl) (by kernel_rfl) (by kernel_rfl) (fun _ _ _ h => h) (Or.inl ⟨by rfl, fun w hSw => exec_load_cells 116 (ogC x) rfl rfl hSw.2 (by kernel_rfl) (by kernel_rfl)⟩) (by assumption) ?_
      (try simp only [Act.put, List.getElem_toArray, List.getElem_cons_zero, List.getElem_cons_succ, List.setIfInBounds_toArray, List.set_cons_zero, List.set_cons_succ])
      refine wpAnyH_take (i := 8) (v := .bool false) rfl (by kernel_rfl) (by kernel_rfl) (by kernel_rfl) (fun _ _ _ h => h) (Or.inl ⟨by rfl, fun w hSw => exec_eq_agg .neq 116 (ogC x) (ogC x) true rfl (Or.inr rfl) rfl rfl (by kernel_rfl) (HEQ w)⟩) (by assumption) ?_
      (try simp only [Act.put, List.getElem_toArray, List.getElem_cons_zero, List.getElem_cons_succ, List.setIfInBounds_toArray, List.set_cons_zero, List.set_cons_succ])
      refine wpAnyH_done (by kernel_rfl) ?_ _
      refine NoPanic.normal ?_
      have hbd := hb.drew
      go_wp2
      go_roundw
      case rel => exact ⟨k + 1, by omega, by go_num, hbd⟩
      case measure => simp [intOf]; omega
    · obtain rfl : k = l.length := by omega
      have q2 : decide ((l.length : Int) < (l.length : Int)) = false := decide_eq_false (by omega)
      go_wp2
      go_ret
      exact ⟨rfl, hb⟩

end Go.Proofs.YtcijhmbimbejfaaGreatDoor

namespace Go.Proofs.YtcijhmbimbejfaaGreatDoor
open Go.RowKit
set_option linter.unusedVariables false

theorem box_blk {P : Program} {ops : Array Oper} {rest : List Oper} {o : Oper} {a : Act} {w : World} {Q : Exit → Act → World → Prop} {x : Operand} (t : TypeId) (X : Array Value) (hg : o.guard = none) (ho : o.op = .box t x) (hx : a.eval x = .agg X)
    (h : ∀ w', Blk w' w.heap.size t X → Below w.heap.size w w' → wpList P ops Q rest (a.put o.dst (.pointer (some ⟨w.heap.size, 0, none⟩))) w') : wpList P ops Q (o :: rest) a w :=
  Go.Great.wpList_boxTo hg t x ho _ rfl _ rfl X (by rw [hx]; rfl) (h _ (Blk.new w t X) ((Below.refl _ _).alloc (Nat.le_refl _) _))

end Go.Proofs.YtcijhmbimbejfaaGreatDoor

namespace Go.Proofs.YtcijhmbimbejfaaGreatDoor
open Go.RowKit
attribute [local go_sem ↓] Go.wp_at_zero Go.wp_at_succ
set_option linter.unusedSimpArgs false
set_option linter.unusedVariables false
set_option maxRecDepth 100000

def ldLen (x : Ld) : Prop := x.de.length ≤ 1000000 ∧ x.ho.length ≤ 1000000 ∧ x.sy.length ≤ 1000000 ∧ x.ca.length ≤ 1000000 ∧ x.ma.length ≤ 1000000 ∧ x.og.length ≤ 1000000
set_option maxHeartbeats 3200000 in
theorem sameLd_any (x : Ld) (q p : LdA) (w : World) (h1 : LdIn w x q) (h2 : LdIn w x p) (hl : ldLen x) :
    Calls Tryz.prog 14 #[.agg (ldC x q), .agg (ldC x p)] w fun e w' => e = .returned (.bool true) ∧ Below w.heap.size w w' := by
  obtain ⟨l1, l2, l3, l4, l5, l6⟩ := hl
  have HN1 : ∀ W, (Op.equalIn 10000 23 (.agg (nmC x.ch)) (.agg (nmC x.ch))).run Tryz.prog W = .ok true W := fun W => nm_same x.ch W
  have HN2 : ∀ W, (Op.equalIn 10000 23 (.agg (nmC x.po)) (.agg (nmC x.po))).run Tryz.prog W = .ok true W := fun W => nm_same x.po W
  have E0 := Lib.hid (fun (W : World) (h1 : StIn W q.de.1 x.de) (h2 : StIn W p.de.1 x.de) => eqSts_any q.de.1 q.de.2 p.de.1 p.de.2 x.de W h1 h2 l1)
  have E1 := Lib.hid (fun (W : World) (h1 : StIn W q.ho.1 x.ho) (h2 : StIn W p.ho.1 x.ho) => eqSts_any q.ho.1 q.ho.2 p.ho.1 p.ho.2 x.ho W h1 h2 l2)
  have E2 := Lib.hid (fun (W : World) (h1 : StIn W q.sy.1 x.sy) (h2 : StIn W p.sy.1 x.sy) => eqSts_any q.sy.1 q.sy.2 p.sy.1 p.sy.2 x.sy W h1 h2 l3)
  have E3 := Lib.hid (fun (W : World) (h1 : CpIn W q.ca.1 x.ca) (h2 : CpIn W p.ca.1 x.ca) => eqCps_any q.ca.1 q.ca.2 p.ca.1 p.ca.2 x.ca W h1 h2 l4)
  have E4 := Lib.hid (fun (W : World) (h1 : MgIn W q.ma.1 x.ma) (h2 : MgIn W p.ma.1 x.ma) => eqMgs_any q.ma.1 q.ma.2 p.ma.1 p.ma.2 x.ma W h1 h2 l5)
  have E5 := Lib.hid (fun (W : World) (h1 : OgIn W q.og.1 x.og) (h2 : OgIn W p.og.1 x.og) => eqOgs_any q.og.1 q.og.2 p.og.1 p.og.2 x.og W h1 h2 l6)
  clear l1 l2 l3 l4 l5 l6
  go_enter Tryz.func14, Tryz.ntmps14
  go_upto_region 1 with (first
    | (refine box_blk 29 (ldC x q) (by rfl) (by rfl) rfl ?_; intro w1 HA1 B1)
    | (refine box_blk 29 (ldC x p) (by rfl) (by rfl) rfl ?_; intro w2 HA2 B2))
  have HA1b := HA1.kept B2
  have BB := B1.trans (B2.mono B1.size)
  replace h1 := h1.below BB
  replace h2 := h2.below BB
  generalize w1.heap.size = g at *
  clear HA1 B1 B2
  have c4a := HA1b.cv 4 (.int .i64 x.tt) rfl
  have c4b := HA2.cv 4 (.int .i64 x.tt) rfl
  have d5a := HA1b.cv 5 (.slice q.de.1 x.de.length q.de.2) rfl
  have d5b := HA2.cv 5 (.slice p.de.1 x.de.length p.de.2) rfl
  go_wp2_with (first
    | (refine load_blk (k := 0) 23 (nmC x.ch) (by rfl) rfl rfl HA1b (by kernel_rfl) (by kernel_rfl) rfl ?_)
    | (refine load_blk (k := 0) 23 (nmC x.ch) (by rfl) rfl rfl HA2 (by kernel_rfl) (by kernel_rfl) rfl ?_)
    | (refine load_blk (k := 2) 23 (nmC x.po) (by rfl) rfl rfl HA1b (by kernel_rfl) (by kernel_rfl) rfl ?_)
    | (refine load_blk (k := 2) 23 (nmC x.po) (by rfl) rfl rfl HA2 (by kernel_rfl) (by kernel_rfl) rfl ?_)
    | (refine eq_blk .eql 23 (nmC x.ch) (nmC x.ch) true (by rfl) rfl (Or.inl rfl) rfl rfl (by kernel_rfl) (HN1 _) ?_)
    | (refine eq_blk .eql 23 (nmC x.po) (nmC x.po) true (by rfl) rfl (Or.inl rfl) rfl rfl (by kernel_rfl) (HN2 _) ?_))
  refine (E0.out _ h1.1 h2.1).mono ?_
  rintro e u0 ⟨rfl, k0⟩
  replace h1 := h1.below k0
  replace h2 := h2.below k0
  replace HA1b := HA1b.kept k0
  replace HA2 := HA2.kept k0
  replace BB := BB.trans (k0.mono BB.size)
  have e6a := HA1b.cv 6 (.slice q.ho.1 x.ho.length q.ho.2) rfl
  have e6b := HA2.cv 6 (.slice p.ho.1 x.ho.length p.ho.2) rfl
  clear k0
  go_wp2_with fail
  refine (E1.out _ h1.2.1 h2.2.1).mono ?_
  rintro e u1 ⟨rfl, k1⟩
  replace h1 := h1.below k1
  replace h2 := h2.below k1
  replace HA1b := HA1b.kept k1
  replace HA2 := HA2.kept k1
  replace BB := BB.trans (k1.mono BB.size)
  have e7a := HA1b.cv 7 (.slice q.sy.1 x.sy.length q.sy.2) rfl
  have e7b := HA2.cv 7 (.slice p.sy.1 x.sy.length p.sy.2) rfl
  clear k1
  go_wp2_with fail
  refine (E2.out _ h1.2.2.1 h2.2.2.1).mono ?_
  rintro e u2 ⟨rfl, k2⟩
  replace h1 := h1.below k2
  replace h2 := h2.below k2
  replace HA1b := HA1b.kept k2
  replace HA2 := HA2.kept k2
  replace BB := BB.trans (k2.mono BB.size)
  have e8a := HA1b.cv 8 (.slice q.ca.1 x.ca.length q.ca.2) rfl
  have e8b := HA2.cv 8 (.slice p.ca.1 x.ca.length p.ca.2) rfl
  clear k2
  go_wp2_with fail
  refine (E3.out _ h1.2.2.2.1 h2.2.2.2.1).mono ?_
  rintro e u3 ⟨rfl, k3⟩
  replace h1 := h1.below k3
  replace h2 := h2.below k3
  replace HA1b := HA1b.kept k3
  replace HA2 := HA2.kept k3
  replace BB := BB.trans (k3.mono BB.size)
  have e9a := HA1b.cv 9 (.slice q.ma.1 x.ma.length q.ma.2) rfl
  have e9b := HA2.cv 9 (.slice p.ma.1 x.ma.length p.ma.2) rfl
  clear k3
  go_wp2_with fail
  refine (E4.out _ h1.2.2.2.2.1 h2.2.2.2.2.1).mono ?_
  rintro e u4 ⟨rfl, k4⟩
  replace h1 := h1.below k4
  replace h2 := h2.below k4
  replace HA1b := HA1b.kept k4
  replace HA2 := HA2.kept k4
  replace BB := BB.trans (k4.mono BB.size)
  have e10a := HA1b.cv 10 (.slice q.og.1 x.og.length q.og.2) rfl
  have e10b := HA2.cv 10 (.slice p.og.1 x.og.length p.og.2) rfl
  clear k4
  go_wp2_with fail
  refine (E5.out _ h1.2.2.2.2.2 h2.2.2.2.2.2).mono ?_
  rintro e u5 ⟨rfl, k5⟩
  replace h1 := h1.below k5
  replace h2 := h2.below k5
  replace HA1b := HA1b.kept k5
  replace HA2 := HA2.kept k5
  replace BB := BB.trans (k5.mono BB.size)
  go_wp2
  go_ret
  exact ⟨rfl, BB⟩

end Go.Proofs.YtcijhmbimbejfaaGreatDoor

namespace Go.Proofs.YtcijhmbimbejfaaGreatDoor
open Go.RowKit
attribute [local go_sem ↓] Go.wp_at_zero Go.wp_at_succ
set_option linter.unusedSimpArgs false
set_option linter.unusedVariables false
set_option maxRecDepth 100000

theorem okLd_rg (x : Ld) (h : okLd x = true) : rgLd x := by
  obtain ⟨o1, o2, o3, o4, o5, o6, o7, o8, o9⟩ := okLd_all h
  have n1 := okNm_all o1
  have n2 := okNm_all o2
  unfold rgLd rgNm i64R maxLen
  refine ⟨⟨by omega, by omega⟩, ⟨by omega, by omega⟩, by omega, fun y hy => ?_, fun y hy => ?_, fun y hy => ?_, by omega, by omega, by omega, by omega, by omega, by omega⟩
  · have q := okCp_all (o7.2 y hy)
    unfold rgCp i64R
    omega
  · have q := okMg_all (o8.2 y hy)
    unfold rgMg i64R maxLen
    omega
  · have q := okOg_all (o9.2 y hy)
    unfold rgOg i64R maxLen
    omega
theorem okLd_len (x : Ld) (h : okLd x = true) : ldLen x := by
  obtain ⟨o1, o2, o3, o4, o5, o6, o7, o8, o9⟩ := okLd_all h
  unfold ldLen
  omega
theorem ldRead_ok (s : ByteArray) (w : World) (hs : s.size ≤ 100000) (x : Ld) (h : rdLd s.data.toList = .ok x) :
    Calls Tryz.prog 6 #[.string s] w fun e w' => ∃ q, e = .returned (.tuple #[.agg (ldC x q), .nilIface]) ∧ LdIn w' x q ∧ Below w.heap.size w w' := by
  refine (ldRead_any s w hs _ h).mono ?_
  rintro e w' ⟨q, er, rfl, h1, h2, h3⟩
  rcases h2 with ⟨rfl, -, -⟩ | ⟨h2, -⟩
  · exact ⟨q, rfl, h1, h3⟩
  · exact absurd rfl h2
theorem rdLd_bad_ne {S : List UInt8} {e : Int} {p : Nat} (h : rdLd S = .bad e p) : e ≠ 0 := by
  unfold rdLd at h
  cases hR : rdAll S with
  | bad e' p' =>
    rw [hR] at h
    cases h
    exact rd_bad_ne S _ _ _ _ _ _ hR
  | ok l a n =>
    rw [hR] at h
    exact ldGo_bad _ _ _ _ _ _ _ h
theorem ldRead_bad (s : ByteArray) (w : World) (hs : s.size ≤ 100000) (e0 : Int) (p : Nat) (h : rdLd s.data.toList = .bad e0 p) :
    Calls Tryz.prog 6 #[.string s] w fun e w' => ∃ q b, e = .returned (.tuple #[.agg (ldC zLd q), .iface 102 b]) ∧ LdIn w' zLd q ∧ Below w.heap.size w w' := by
  have hne := rdLd_bad_ne h
  refine (ldRead_any s w hs _ h).mono ?_
  rintro e w' ⟨q, er, rfl, h1, h2, h3⟩
  rcases h2 with ⟨-, h2, -⟩ | ⟨-, g, rfl, -⟩
  · exact absurd h2 hne
  · exact ⟨q, _, rfl, h1, h3⟩
theorem rdLd_ok {S : List UInt8} {x : Ld} (h : rdLd S = .ok x) : okLd x = true ∧ (ldW x).length ≤ S.length := by
  unfold rdLd at h
  cases hR : rdAll S with
  | bad e' p' =>
    rw [hR] at h
    cases h
  | ok l a n =>
    rw [hR] at h
    obtain ⟨f1, f2, f3, f4, f5, f6, f7⟩ := wrote_rdAll S l a n hR
    have h : ldGo n [] zLd l a = .ok x := h
    rw [ldGo_acc] at h
    obtain ⟨g1, g2⟩ := ldVal_ok l (fun t ht => (okTl_all (f1 t ht)).1) h.1
    rw [← h.2] at g1 g2
    exact ⟨g1, by unfold ldW; rw [g2, f3]; exact f6⟩
def toldL : Ld := ⟨⟨4, ⟨#[99]⟩⟩, ⟨5, ⟨#[112]⟩⟩, 120, [], [⟨#[104]⟩], [], [], [], []⟩
theorem toldL_ok : okLd toldL = true := by kernel_rfl
theorem toldL_W : ldW toldL = [2, 2, 4, 99, 4, 2, 5, 112, 6, 2, 0, 120, 10, 1, 104, 0, 0] := by kernel_rfl

set_option maxHeartbeats 3200000 in
theorem told_any (w : World) : Calls Tryz.prog 9 #[] w fun e w' => e = .returned (.bool true) ∧ Below w.heap.size w w' := by
  have hnn : ∀ w : World, (binOp BinOp.eql 36 .nilIface .nilIface).run Tryz.prog w = .ok (.bool true) w := fun _ => by kernel_rfl
  obtain ⟨s, hs⟩ : ∃ s : ByteArray, s = ⟨#[2, 2, 4, 99, 4, 2, 5, 112, 6, 2, 0, 120, 10, 1, 104, 0, 0]⟩ := ⟨_, rfl⟩
  have HW := Lib.hid (fun (q : LdA) (W : World) (h : LdIn W toldL q) => by
    have r := ldWrite_any toldL q W h (okLd_rg _ toldL_ok)
    unfold ldX ldE at r
    rw [toldL_ok, if_pos rfl, if_pos rfl, toldL_W] at r
    rw [show (⟨[2, 2, 4, 99, 4, 2, 5, 112, 6, 2, 0, 120, 10, 1, 104, 0, 0].toArray⟩ : ByteArray) = s from hs.symm] at r
    exact r)
  have HR := Lib.hid (fun (W : World) => ldRead_ok s W (by rw [hs]; decide) toldL (by rw [hs, ← rdLd_W toldL toldL_ok, toldL_W]))
  have HS := Lib.hid (fun (q p : LdA) (W : World) (h1 : LdIn W toldL q) (h2 : LdIn W toldL p) => sameLd_any toldL q p W h1 h2 (okLd_len _ toldL_ok))
  have hc1 : (s.toList == (⟨#[2, 2, 4, 99, 4, 2, 5, 112, 6, 2, 0, 120, 10, 1, 104, 0, 0]⟩ : ByteArray).toList) = true := by rw [hs]; exact beq_iff_eq.2 rfl
  have hc2 : (s.toList == [2, 2, 4, 99, 4, 2, 5, 112, 6, 2, 0, 120, 10, 1, 104, 0, 0]) = true := by rw [hs]; kernel_rfl
  clear hs
  have b0 : Below w.heap.size w (w.alloc (.cells (stC ⟨#[104]⟩) 9)) := (Below.refl _ _).alloc (Nat.le_refl _) _
  have HG1 := Blk.new w 9 (stC ⟨#[104]⟩)
  go_enter Tryz.func9, Tryz.ntmps9
  go_upto_region 2 with (first
    | (refine build_blk (o := ⟨some 6, _, _, _, _, _⟩) (t := 23) (nmC ⟨4, ⟨#[99]⟩⟩) (by rfl) rfl (by kernel_rfl) ?_)
    | (refine build_blk (o := ⟨some 7, _, _, _, _, _⟩) (t := 23) (nmC ⟨5, ⟨#[112]⟩⟩) (by rfl) rfl (by kernel_rfl) ?_)
    | (refine sliceL_sv ⟨#[104]⟩ rfl rfl rfl ?_; intro w2 HG2 b2 s2)
    | (refine build_blk (t := 29) (ldC toldL ⟨(none, 0), (some ⟨w.heap.size, 0, none⟩, 1), (none, 0), (none, 0), (none, 0), (none, 0)⟩) (by rfl) rfl (by kernel_rfl) ?_)
    | (refine alloc_blk 29 (ldC zLd zLdA) (by rfl) rfl Tryz.ldZero ?_)
    | (refine store_blk (k := 0) 29 (.agg (ldC toldL ⟨(none, 0), (some ⟨w.heap.size, 0, none⟩, 1), (none, 0), (none, 0), (none, 0), (none, 0)⟩)) (ldC toldL ⟨(none, 0), (some ⟨w.heap.size, 0, none⟩, 1), (none, 0), (none, 0), (none, 0), (none, 0)⟩) (by rfl) rfl rfl rfl (Blk.new w2 _ _) (by kernel_rfl) (Nat.le_of_eq rfl) (by rfl) (st_whole _ _ rfl) ?_; intro w3 HV3 b3 g3))
  (try simp only [Act.put, List.setIfInBounds_toArray, List.set_cons_zero, List.set_cons_succ])
  obtain ⟨q, hq⟩ : ∃ q : LdA, q = ⟨(none, 0), (some ⟨w.heap.size, 0, none⟩, 1), (none, 0), (none, 0), (none, 0), (none, 0)⟩ := ⟨_, rfl⟩
  have B23 : Below w2.heap.size w2 w3 := ((Below.refl _ _).alloc (Nat.le_refl _) _).trans b3
  have HG3 := HG2.kept B23
  have I3 : LdIn w3 toldL q := by
    rw [hq]
    exact ⟨Or.inl rfl, Or.inr ⟨_, 0, rfl, HG3.lt, fun j hj => by
      have hj0 : j = 0 := by simpa [toldL] using hj
      subst hj0
      intro k c hc
      simp only [Nat.zero_mul, Nat.zero_add]
      exact HG3.cv k c hc⟩, Or.inl rfl, Or.inl rfl, Or.inl rfl, Or.inl rfl⟩
  have B3 : Below w.heap.size w w3 := b2.trans (B23.mono b2.size)
  rw [← hq] at HV3
  (try rw [← hq])
  clear hq HG1 b0 HG2 b2 s2 b3 g3 B23 HG3
  generalize w2.heap.size = V at *
  go_wp2_with (refine load_blk (k := 0) 29 (ldC toldL q) (by rfl) rfl rfl HV3 (by kernel_rfl) (by kernel_rfl) rfl ?_)
  refine (HW.out _ _ I3).mono ?_
  rintro e w4 ⟨rfl, k4⟩
  have HV4 := HV3.kept k4
  have I4 := I3.below k4
  have B4 := B3.trans (k4.mono B3.size)
  clear HV3 I3 B3 k4
  go_wp2_with fail
  refine (HR.out _).mono ?_
  rintro e w5 ⟨p, rfl, J5, k5⟩
  have HV5 := HV4.kept k5
  have I5 := I4.below k5
  have B5 := B4.trans (k5.mono B4.size)
  clear HV4 I4 B4 k5
  go_upto_region 4 with (first
    | (refine alloc_blk 29 (ldC zLd zLdA) (by rfl) rfl Tryz.ldZero ?_)
    | (refine store_blk (k := 0) 29 (.agg (ldC toldL p)) (ldC toldL p) (by rfl) rfl rfl rfl (Blk.new w5 _ _) (by kernel_rfl) (Nat.le_of_eq rfl) (by rfl) (st_whole _ _ rfl) ?_; intro w6 HN6 b6 g6))
  (try simp only [Act.put, List.setIfInBounds_toArray, List.set_cons_zero, List.set_cons_succ])
  have b56 : Below w5.heap.size w5 w6 := ((Below.refl _ _).alloc (Nat.le_refl _) _).trans b6
  have HV6 := HV5.kept b56
  have I6 := I5.below b56
  have J6 := J5.below b56
  have B6 := B5.trans (b56.mono B5.size)
  clear HV5 I5 J5 B5 b6 g6 b56
  generalize w5.heap.size = U at *
  go_wp2_with (first
    | (refine load_blk (k := 0) 29 (ldC toldL q) (by rfl) rfl rfl HV6 (by kernel_rfl) (by kernel_rfl) rfl ?_)
    | (refine load_blk (k := 0) 29 (ldC toldL p) (by rfl) rfl rfl HN6 (by kernel_rfl) (by kernel_rfl) rfl ?_))
  refine (HS.out _ _ _ I6 J6).mono ?_
  rintro e w7 ⟨rfl, k7⟩
  go_wp2
  go_ret
  exact ⟨rfl, B6.trans (k7.mono B6.size)⟩

end Go.Proofs.YtcijhmbimbejfaaGreatDoor

namespace Go.Proofs.YtcijhmbimbejfaaGreatDoor
open Go.RowKit
attribute [local go_sem ↓] Go.wp_at_zero Go.wp_at_succ
set_option linter.unusedSimpArgs false
set_option linter.unusedVariables false
set_option maxRecDepth 100000

set_option maxHeartbeats 1600000 in
theorem large_any (x : Ld) (q : LdA) (w : World) :
    Calls Tryz.prog 10 #[.agg (ldC x q)] w fun e w' => (∃ b, e = .returned (.bool b)) ∧ Below w.heap.size w w' := by
  go_enter Tryz.func10, Tryz.ntmps10
  go_upto_region 1 with (refine box_blk 29 (ldC x q) (by rfl) (by rfl) rfl ?_; intro w1 HA1 B1)
  generalize hgg : w.heap.size = g at *
  have c5 := HA1.cv 5 (.slice q.de.1 x.de.length q.de.2) rfl
  have c6 := HA1.cv 6 (.slice q.ho.1 x.ho.length q.ho.2) rfl
  have c7 := HA1.cv 7 (.slice q.sy.1 x.sy.length q.sy.2) rfl
  have c8 := HA1.cv 8 (.slice q.ca.1 x.ca.length q.ca.2) rfl
  have c9 := HA1.cv 9 (.slice q.ma.1 x.ma.length q.ma.2) rfl
  have c10 := HA1.cv 10 (.slice q.og.1 x.og.length q.og.2) rfl
  generalize x.de.length = n1 at *
  generalize x.ho.length = n2 at *
  generalize x.sy.length = n3 at *
  generalize x.ca.length = n4 at *
  generalize x.ma.length = n5 at *
  generalize x.og.length = n6 at *
  go_wp2
  go_ret
  exact ⟨⟨_, rfl⟩, by rw [hgg]; exact B1⟩
theorem wrap_sum {n1 n2 n3 n4 n5 n6 : Nat} (h1 : n1 ≤ 140737488355328) (h2 : n2 ≤ 140737488355328) (h3 : n3 ≤ 140737488355328) (h4 : n4 ≤ 140737488355328) (h5 : n5 ≤ 140737488355328) (h6 : n6 ≤ 140737488355328) :
    wrap64 (wrap64 (wrap64 (wrap64 (wrap64 ((n5 : Int) + (n6 : Int)) + (n1 : Int)) + (n2 : Int)) + (n3 : Int)) + (n4 : Int)) = (n5 : Int) + (n6 : Int) + (n1 : Int) + (n2 : Int) + (n3 : Int) + (n4 : Int) := by
  have e : ∀ x : Int, 0 ≤ x → x ≤ 9000000000000000000 → wrap64 x = x := fun x h0 h1 => by unfold wrap64; omega
  rw [e ((n5 : Int) + (n6 : Int)) (by omega) (by omega), e ((n5 : Int) + (n6 : Int) + (n1 : Int)) (by omega) (by omega), e ((n5 : Int) + (n6 : Int) + (n1 : Int) + (n2 : Int)) (by omega) (by omega), e ((n5 : Int) + (n6 : Int) + (n1 : Int) + (n2 : Int) + (n3 : Int)) (by omega) (by omega), e ((n5 : Int) + (n6 : Int) + (n1 : Int) + (n2 : Int) + (n3 : Int) + (n4 : Int)) (by omega) (by omega)]
set_option maxHeartbeats 1600000 in
theorem large_le (x : Ld) (q : LdA) (w : World) (h : x.de.length ≤ 140737488355328 ∧ x.ho.length ≤ 140737488355328 ∧ x.sy.length ≤ 140737488355328 ∧ x.ca.length ≤ 140737488355328 ∧ x.ma.length ≤ 140737488355328 ∧ x.og.length ≤ 140737488355328) :
    Calls Tryz.prog 10 #[.agg (ldC x q)] w fun e w' => (∃ b, e = .returned (.bool b) ∧ (b = false → x.og.length ≤ 60)) ∧ Below w.heap.size w w' := by
  have HH := Lib.hid h
  clear h
  go_enter Tryz.func10, Tryz.ntmps10
  go_upto_region 1 with (refine box_blk 29 (ldC x q) (by rfl) (by rfl) rfl ?_; intro w1 HA1 B1)
  generalize hgg : w.heap.size = g at *
  have c5 := HA1.cv 5 (.slice q.de.1 x.de.length q.de.2) rfl
  have c6 := HA1.cv 6 (.slice q.ho.1 x.ho.length q.ho.2) rfl
  have c7 := HA1.cv 7 (.slice q.sy.1 x.sy.length q.sy.2) rfl
  have c8 := HA1.cv 8 (.slice q.ca.1 x.ca.length q.ca.2) rfl
  have c9 := HA1.cv 9 (.slice q.ma.1 x.ma.length q.ma.2) rfl
  have c10 := HA1.cv 10 (.slice q.og.1 x.og.length q.og.2) rfl
  generalize x.de.length = n1 at *
  generalize x.ho.length = n2 at *
  generalize x.sy.length = n3 at *
  generalize x.ca.length = n4 at *
  generalize x.ma.length = n5 at *
  generalize hn6 : x.og.length = n6 at *
  have HN6 := Lib.hid hn6
  clear hn6
  go_wp2
  go_ret
  refine ⟨⟨_, rfl, fun hb => ?_⟩, by rw [hgg]; exact B1⟩
  obtain ⟨h1, h2, h3, h4, h5, h6⟩ := HH.out
  have hb := of_decide_eq_false hb
  rw [wrap_sum h1 h2 h3 h4 h5 h6] at hb
  rw [HN6.out]
  omega
/-- The cells of a block begin with these records. -/
def RowIs (C : Array Value) (l : List Tl) : Prop := l.length * 2 ≤ C.size ∧ ∀ j (hj : j < l.length), ∀ k, k < 2 → C[j * 2 + k]? = (tlC l[j])[k]?
theorem OwnTl.row {w : World} {base : Nat} {v : Value} {l : List Tl} (h : OwnTl w base v l) (hl : l ≠ []) : ∃ g cap C, v = .slice (some ⟨g, 0, none⟩) l.length cap ∧ base ≤ g ∧ Blk w g 85 C ∧ RowIs C l := by
  rcases h with h | ⟨-, g, cap, rfl, h1, h2⟩
  · exact absurd h.1 hl
  · rcases h2 with ⟨h3, -⟩ | ⟨g1, cap1, cur, e1, e2, e3, e4, e5, e6, e7⟩
    · cases h3
    · cases e1
      refine ⟨g, cap, cur, rfl, e2, e3, by rw [e6]; exact Nat.mul_le_mul_right 2 e4, fun j hj k hk => ?_⟩
      have h3 := tlR_get l j hj k hk
      rw [← e7, List.getElem?_take] at h3
      rw [if_pos (by omega)] at h3
      rw [← h3]
      simp
theorem RowIs.inL {w : World} {g : Nat} {T : TypeId} {C : Array Value} {l : List Tl} (hB : Blk w g T C) (h : RowIs C l) : TlIn w (some ⟨g, 0, none⟩) l := by
  refine Or.inr ⟨g, 0, rfl, hB.lt, fun j hj k c hc => ?_⟩
  have hk : k < 2 := (Array.getElem?_eq_some_iff.1 hc).1
  have := h.2 j hj k hk
  rw [Nat.zero_add]
  exact hB.cv (j * 2 + k) c (this.trans hc)
def putTl (C : Array Value) (i : Nat) (y : Tl) : Array Value := (C.toList.take (i * 2) ++ (Value.agg (tlC y)).cells.toList ++ C.toList.drop (i * 2 + (Value.agg (tlC y)).cells.toList.length)).toArray
theorem tlC_cl (y : Tl) : (Value.agg (tlC y)).cells.toList = [.int .i64 y.k, .string y.t] := rfl
theorem putTl_size (C : Array Value) (i : Nat) (y : Tl) (h : i * 2 + 2 ≤ C.size) : (putTl C i y).size = C.size := by
  unfold putTl
  rw [tlC_cl]
  simp
  omega
theorem putTl_get (C : Array Value) (i : Nat) (y : Tl) (h : i * 2 + 2 ≤ C.size) (j k : Nat) (hk : k < 2) : (putTl C i y)[j * 2 + k]? = if j = i then (tlC y)[k]? else C[j * 2 + k]? := by
  unfold putTl
  rw [tlC_cl, List.getElem?_toArray]
  have hl : (C.toList.take (i * 2)).length = i * 2 := by rw [List.length_take]; simp; omega
  by_cases hj : j = i
  · subst hj
    rw [if_pos rfl, List.getElem?_append_left (by rw [List.length_append, hl]; simp; omega), List.getElem?_append_right (by omega), hl, show j * 2 + k - j * 2 = k by omega]
    have : k = 0 ∨ k = 1 := by omega
    rcases this with rfl | rfl <;> rfl
  · rw [if_neg hj]
    by_cases hlt : j < i
    · rw [List.getElem?_append_left (by rw [List.length_append, hl]; simp; omega), List.getElem?_append_left (by omega), List.getElem?_take, if_pos (by omega)]
      simp
    · rw [List.getElem?_append_right (by rw [List.length_append, hl]; simp; omega), List.length_append, hl, List.getElem?_drop]
      simp only [List.length_cons, List.length_nil]
      rw [show i * 2 + (0 + 1 + 1) + (j * 2 + k - (i * 2 + (0 + 1 + 1))) = j * 2 + k by omega]
      simp
theorem RowIs.put {C : Array Value} {l : List Tl} (h : RowIs C l) (i : Nat) (hi : i < l.length) (y : Tl) : RowIs (putTl C i y) (l.set i y) := by
  have hz : i * 2 + 2 ≤ C.size := by have := h.1; omega
  refine ⟨by rw [putTl_size C i y hz, List.length_set]; exact h.1, fun j hj k hk => ?_⟩
  rw [List.length_set] at hj
  rw [putTl_get C i y hz j k hk, List.getElem_set]
  by_cases hji : j = i
  · subst hji
    rw [if_pos rfl, if_pos rfl]
  · rw [if_neg hji, if_neg (fun q => hji q.symm)]
    exact h.2 j hj k hk
theorem RowIs.at {C : Array Value} {l : List Tl} (h : RowIs C l) (i : Nat) (hi : i < l.length) : (C.toList.drop (i * 2)).take 2 = (tlC l[i]).toList := by
  have hz : i * 2 + 2 ≤ C.size := by have := h.1; omega
  apply List.ext_getElem?
  intro k
  rw [List.getElem?_take]
  by_cases hk : k < 2
  · rw [if_pos hk, List.getElem?_drop]
    have := h.2 i hi k hk
    simpa using this
  · rw [if_neg hk, List.getElem?_eq_none (by show (tlC l[i]).toList.length ≤ k; rw [tlC_len]; omega)]
theorem RowIs.size {C : Array Value} {l : List Tl} (h : RowIs C l) (i : Nat) (hi : i < l.length) (y : Tl) : i * 2 + (Value.agg (tlC y)).cells.toList.length ≤ C.size := by
  have := h.1
  show i * 2 + 2 ≤ _
  omega
/-- Two neighbours change places. -/
theorem swap_list {α : Type} (a b : List α) (u v : α) : ((a ++ u :: v :: b).set a.length v).set (a.length + 1) u = a ++ v :: u :: b := by
  rw [List.set_append_right _ _ (Nat.le_refl _), Nat.sub_self, List.set_append_right _ _ (by omega), show a.length + 1 - a.length = 1 by omega]
  rfl
theorem split2 {α : Type} (l : List α) (i : Nat) (h : i + 1 < l.length) : ∃ a b, l = a ++ l[i] :: l[i + 1] :: b ∧ a.length = i := by
  refine ⟨l.take i, l.drop (i + 2), ?_, by rw [List.length_take]; omega⟩
  rw [← List.drop_eq_getElem_cons (by omega), ← List.drop_eq_getElem_cons (by omega), List.take_append_drop]

end Go.Proofs.YtcijhmbimbejfaaGreatDoor

