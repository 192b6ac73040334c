/- Texts one behind the other. The reference's LldpRead. -/
import Derived.Test.YtocgnbbnaamjjaaGreatDoorLrK13
import Derived.Test.YtocgnbbnaamjjaaGreatDoorLrK14
import Derived.Deep.Cut
import Derived.Deep.CutBlock
import Derived.Deep.CutRange
namespace Go.Proofs.YtocgnbbnaamjjaaGreatDoor
open Go.RowKit
attribute [local go_sem ↓] Go.wp_at_zero Go.wp_at_succ
set_option linter.unusedSimpArgs false
set_option linter.unusedVariables false
set_option maxRecDepth 100000

/-- What is read, or what is wrong. -/
def RfAns (R : LdR) (w : World) (e : Ending) (w' : World) : Prop := ∃ q, e = .returned (.tuple #[.agg (ldC R.val q), .agg (ftC R.er (match R with | .bad _ p => (p : Int) | .ok _ => -1))]) ∧ LdIn w' R.val q ∧ Below w.heap.size w w'

/-- The first three kinds, so far. -/
def Lead3 (l : List Tl) (k : Nat) : Prop := ∀ j : Nat, 1 ≤ j → j ≤ 3 → cntK (j : Int) (l.take k) = if j ≤ k then 1 else 0

theorem okOg_of (S : List UInt8) (h : S.length ≤ 511) : okOg (ogOf S) = true := by
  have h1 := beN_lt (S.take 3)
  have h2 := beN_lt ((S.drop 3).take 1)
  have q1 : (S.take 3).length ≤ 3 := by rw [List.length_take]; omega
  have q2 : ((S.drop 3).take 1).length ≤ 1 := by rw [List.length_take]; omega
  have p1 := Nat.pow_le_pow_right (n := 256) (by decide) q1
  have p2 := Nat.pow_le_pow_right (n := 256) (by decide) q2
  have h3 : (⟨(S.drop 4).toArray⟩ : ByteArray).size ≤ 507 := by
    show (S.drop 4).toArray.size ≤ 507
    simp
    omega
  unfold okOg ogOf
  simp only [fitI, Bool.and_eq_true, decide_eq_true_eq]
  refine ⟨⟨?_, ?_⟩, ⟨?_, ?_⟩, ?_⟩ <;> (try simp) <;> omega

theorem mg_first {t : ByteArray} (hx : 0 < t.size) (h : okMg (mgOf t.data.toList) = true) : 0 < t[0].toNat := by
  have hl : 0 < t.data.toList.length := by simpa using hx
  have e : t.data.toList.take 1 = [t[0]] := by
    have h0 : t[0] = t.data.toList[0]'hl := by rw [Array.getElem_toList]; rfl
    rw [h0, List.take_add_one, List.getElem?_eq_getElem hl]
    rfl
  rcases Nat.eq_zero_or_pos t[0].toNat with q | q
  · exfalso
    have hb : beN (t.data.toList.take 1) = 0 := by rw [e]; simp [beN, q]
    have hm : mgM t.data.toList = 1 := by unfold mgM; rw [hb]; rfl
    unfold okMg mgOf at h
    rw [hm, Bool.and_eq_true, Bool.and_eq_true] at h
    have h2 := h.2.1
    have hz : (⟨((t.data.toList.drop 2).take (1 - 1)).toArray⟩ : ByteArray).size = 0 := rfl
    simp only [hz] at h2
    exact absurd h2 (by decide)
  · exact q

theorem seen_lookN {ops : Array Oper} {rest : List Oper} {o : Oper} {a : Act} {w : World} {Q : Exit → Act → World → Prop} {m x : Operand} {B : Nat} {k : Int} {l : List Tl} {n : Nat} (hn : cntK k l = n) (hw : Region.wanted o (yielded ops a.tmps) = true) (ho : o.op = .lookup 78 m x false)
    (hm : a.eval m = .map (some B)) (hx : a.eval x = .int .i64 k) (hS : Seen w B l) (hk : -9223372036854775808 ≤ k ∧ k ≤ 9223372036854775807) (h : wpList Tryz.prog ops Q rest (a.put o.dst (.int .i64 (n : Nat))) w) : wpList Tryz.prog ops Q (o :: rest) a w := by
  subst hn
  exact seen_look hw ho hm hx hS hk h

theorem known_of {kn : Nat} (h1 : 1 ≤ kn) (h : kn ≤ 8 ∨ kn = 127) : (kn : Int) ∈ ([1, 2, 3, 4, 5, 6, 7, 8, 127] : List Int) := by
  rcases h with h | rfl
  · rcases (show kn = 1 ∨ kn = 2 ∨ kn = 3 ∨ kn = 4 ∨ kn = 5 ∨ kn = 6 ∨ kn = 7 ∨ kn = 8 by omega) with rfl | rfl | rfl | rfl | rfl | rfl | rfl | rfl <;> simp
  · simp

theorem mis_zero {kn k c : Nat} (h1 : k < 3 → kn = k + 1) (h2 : kn ≤ 8 ∨ kn = 127) (h3 : kn < 8 → c = 0) : misK (kn : Int) k c = 0 := by
  unfold misK
  rw [if_neg (by omega), if_neg (by omega), if_neg (by omega)]

theorem wthn_out {kn : Nat} (h : kn < 4 ∨ 7 < kn) : wthn (kn : Int) 4 7 = false := by
  unfold wthn
  rcases h with h | h
  · rw [decide_eq_false (by omega)]; rfl
  · rw [decide_eq_false (p := (kn : Int) ≤ 7) (by omega), Bool.and_false]

theorem wthn_in {kn : Nat} (h : 4 ≤ kn ∧ kn ≤ 7) : wthn (kn : Int) 4 7 = true := by
  unfold wthn
  rw [decide_eq_true (by omega), decide_eq_true (by omega)]
  rfl

theorem vrd_mis {t : Tl} {i c : Nat} {m : Int} (h : misK t.k i c = m) (hm : m ≠ 0) : vrd t i c = m := by
  unfold vrd
  rw [h, if_pos hm]

theorem vrd_tail {t : Tl} {i c : Nat} (h : misK t.k i c = 0) : vrd t i c = if formK t.k (txT t) = false then 3 else if goodK t.k (txT t) = false then 2 else if 20 ≤ c then 4 else 0 := by
  unfold vrd
  rw [h, if_neg (by simp)]

theorem Blk.seen {w w' : World} {X M : Nat} {T : TypeId} {C : Array Value} {l : List Tl} (h : Blk w X T C) (hM : Seen w M l) (g : w.grownBy w' (some M)) : Blk w' X T C := by
  refine h.grown g ?_
  obtain ⟨D, ⟨es, clock, hb, r⟩, r2⟩ := hM
  intro e
  cases e
  have := hb.symm.trans h
  cases this

theorem LdTail.seen {w w' : World} {D M : Nat} {x : Ld} {q : LdA} {l : List Tl} (h : LdTail w D x q) (hM : Seen w M l) (g : w.grownBy w' (some M)) : LdTail w' D x q :=
  ⟨h.1.stay (fun X C hX => hX.seen hM g), h.2.1.stay (fun X C hX => hX.seen hM g), h.2.2.1.stay (fun X C hX => hX.seen hM g), h.2.2.2.1.stay (fun X C hX => hX.seen hM g), h.2.2.2.2.1.stay (fun X C hX => hX.seen hM g), h.2.2.2.2.2.stay (fun X C hX => hX.seen hM g)⟩

theorem LdAc.seen {w w' : World} {D B M : Nat} {x : Ld} {l : List Tl} (h : LdAc w D B x) (hM : Seen w M l) (g : w.grownBy w' (some M)) : LdAc w' D B x := by
  obtain ⟨q, hB, ho⟩ := h
  exact ⟨q, hB.seen hM g, LdTail.seen ho hM g⟩

set_option maxHeartbeats 64000000 in
theorem refLd_any (s : ByteArray) (w : World) (hs : s.size ≤ 100000) (RR : LdR) (hRR : rdLd s.data.toList = RR) : Calls Tryz.prog 4 #[.string s] w (RfAns RR w) := by
  have hmm := @run_makeMap Tryz.prog
  have hW := Lib.hid (fun m b e (h : rdAll s.data.toList = .ok m b e) => wrote_rdAll s.data.toList m b e h)
  have hbn := Lib.hid (fun e p (h : rdAll s.data.toList = .bad e p) => rd_bad_ne s.data.toList _ _ _ _ e p h)
  have hls : s.data.toList.length = s.size := by simp
  have hRR := Lib.hid hRR
  have HR0 := Blk.new w 29 (ldC zLd zLdA)
  have HE0 := Blk.new (w.alloc (.cells (ldC zLd zLdA) 29)) 32 (ftC 0 0)
  have hz1 : (w.alloc (.cells (ldC zLd zLdA) 29)).heap.size = w.heap.size + 1 := by simp
  have HR1 := HR0.alloc (.cells (ftC 0 0) 32)
  have B0 : Below w.heap.size w ((w.alloc (.cells (ldC zLd zLdA) 29)).alloc (.cells (ftC 0 0) 32)) := ((Below.refl _ _).alloc (Nat.le_refl _) _).alloc (by simp) _
  have hz2 : ((w.alloc (.cells (ldC zLd zLdA) 29)).alloc (.cells (ftC 0 0) 32)).heap.size = w.heap.size + 2 := by simp
  go_enter Tryz.func4, Tryz.ntmps4
  go_upto_region 1 with (first | (refine alloc_blk 29 (ldC zLd zLdA) (by rfl) rfl Tryz.ldZero ?_) | (refine alloc_blk 32 (ftC 0 0) (by rfl) rfl Tryz.ftZero ?_))
  rw [hz1] at HE0
  (try rw [hz1])
  generalize (w.alloc (.cells (ldC zLd zLdA) 29)).alloc (.cells (ftC 0 0) 32) = w1 at *
  clear HR0 hz1
  go_wp2_with fail
  refine refTlRead_any s w1 hs _ rfl _ (fun v1 v2 w2 HO HN B2 => ?_)
  have HR2 := HR1.kept B2
  have HE2 := HE0.kept B2
  have E2 := B0.trans (B2.mono B0.size)
  have HF3 := Blk.new w2 32 (ftC 0 0)
  have HR3 := HR2.alloc (.cells (ftC 0 0) 32)
  have HE3 := HE2.alloc (.cells (ftC 0 0) 32)
  have HO3 := HO.alloc (.cells (ftC 0 0) 32)
  have HN3 := HN.alloc (.cells (ftC 0 0) 32)
  have E3 := E2.alloc E2.size (.cells (ftC 0 0) 32)
  have hRl : w.heap.size + 2 ≤ w2.heap.size := by have := B2.size; omega
  generalize hT : rdAll s.data.toList = TR at *
  go_upto_region 2 with (first | (refine alloc_blk 32 (ftC 0 0) (by rfl) rfl Tryz.ftZero ?_) | (refine store_blk (k := 0) 32 (.agg (ftC TR.er TR.pl)) (ftC TR.er TR.pl) (by rfl) rfl rfl rfl HF3 (by kernel_rfl) (by exact Nat.le_refl 2) rfl rfl (fun w4 HF4 b4 g4 => ?_)))
  have HR4 := HR3.grown g4 (by simp; omega)
  have HE4 := HE3.grown g4 (by simp; omega)
  have HO4 : OwnTl w4 w1.heap.size v1 TR.recs := HO3.other HF3 (by decide) g4
  have HN4 : OwnNat w4 w1.heap.size v2 TR.offs := HN3.other HF3 (by decide) g4
  have E4 : Below w.heap.size w w4 := E3.trans (b4.mono (by omega))
  clear HR2 HE2 HF3 HR3 HE3 HO HN HO3 HN3 E2 E3 g4 b4 HE0 HR1 B0 B2
  generalize hfe : TR.er = fe at *
  generalize hfp : TR.pl = fp at *
  have HT := Lib.hid hT
  have hFl : w2.heap.size < w4.heap.size := HF4.lt
  generalize w2.heap.size = F at *
  clear hT
  go_wp2_with (refine load_blk (k := 0) 32 (ftC fe fp) (by rfl) rfl rfl HF4 (by kernel_rfl) (by kernel_rfl) rfl ?_)
  refine (is_any fe fp _).mono ?_
  rintro r w5 ⟨rfl, b5⟩
  have HR5 := HR4.kept b5
  have HE5 := HE4.kept b5
  have HF5 := HF4.kept b5
  have HO5 := HO4.kept b5
  have HN5 := HN4.kept b5
  have E5 := E4.trans (b5.mono E4.size)
  clear HR4 HE4 HF4 HO4 HN4 E4 b5
  cases TR with
  | bad e p =>
    have hne := hbn.out _ _ rfl
    obtain rfl : e = fe := hfe
    obtain rfl : (p : Int) = fp := hfp
    have h1 : (e == 0) = false := by simp [hne]
    have hv : Hid (RR =   .bad e p) := by
      show _ = _
      rw [← hRR.out]
      unfold rdLd
      rw [HT.out]
      rfl
    have HFd := HF5.drew
    have HRd := HR5.drew
    have HEd := HE5.drew
    have Ed := E5.drew
    have hER : ¬ w.heap.size = w.heap.size + 1 := by omega
    have hFE : ¬ F = w.heap.size + 1 := by omega
    clear HF5 HR5 HE5 E5 HO5 HN5 hne hbn hW hRR HT hmm
    go_upto_region 3 with (fail)
    refine wp_region_noPanic ?_
    refine wp_region_held_drew (S := fun w' => Blk w' F 32 (ftC e (p : Int))) (by kernel_rfl) ?_ (fun hHeld => ?_)
    · exact HFd
    refine wpAnyH_take (i := 0) (v := .agg (ldC zLd zLdA)) rfl (by kernel_rfl) (by kernel_rfl) (by kernel_rfl) (fun _ _ _ h => h) (Or.inl ⟨by rfl, fun w hSw => exec_build_blkL (t := 29) (ldC zLd zLdA) rfl (by kernel_rfl)⟩) (by assumption) ?_
    (try simp only [Act.put, List.getElem_toArray, List.getElem_cons_zero, List.getElem_cons_succ, List.setIfInBounds_toArray, List.set_cons_zero, List.set_cons_succ])
    refine wpAnyH_take (i := 1) (v := .agg (ftC e (p : Int))) rfl (by kernel_rfl) (by kernel_rfl) (by kernel_rfl) (fun _ _ _ h => h) (Or.inl ⟨by rfl, fun w hSw => exec_load_blk (k := 0) 32 (ftC e (p : Int)) rfl rfl hSw (by kernel_rfl) (by kernel_rfl) rfl⟩) (by assumption) ?_
    (try simp only [Act.put, List.getElem_toArray, List.getElem_cons_zero, List.getElem_cons_succ, List.setIfInBounds_toArray, List.set_cons_zero, List.set_cons_succ])
    refine wpAnyH_ready (rs := [2]) (by kernel_rfl) (by simp) ?_
    refine AllReadyH.cons rfl (fun K hK => ?_) AllReadyH.nil
    simp only [List.getElem_toArray, List.getElem_cons_zero, List.getElem_cons_succ]
    rw [if_pos (by rfl)]
    refine wp_store_op (k := 0) 29 (.agg (ldC zLd zLdA)) (ldC zLd zLdA) (by rfl) rfl rfl HRd (by kernel_rfl) (show (11 : Nat) ≤ 11 from Nat.le_refl 11) (by rfl) (st_whole _ _ rfl) (fun w6 HR6 b6 g6 => ?_)
    have HF6 := HFd.grown g6 (by simp; omega)
    have HE6 := HEd.grown g6 (by simp)
    have E6 := Ed.trans b6
    refine hK.out _ _ ?_ (fun hHeld => ?_)
    · exact HF6
    clear hK K
    (try simp only [Act.put, List.getElem_toArray, List.getElem_cons_zero, List.getElem_cons_succ, List.setIfInBounds_toArray, List.set_cons_zero, List.set_cons_succ])
    refine wpAnyH_ready (rs := [3]) (by kernel_rfl) (by simp) ?_
    refine AllReadyH.cons rfl (fun K hK => ?_) AllReadyH.nil
    simp only [List.getElem_toArray, List.getElem_cons_zero, List.getElem_cons_succ]
    rw [if_pos (by rfl)]
    refine wp_store_op (k := 0) 32 (.agg (ftC e (p : Int))) (ftC e (p : Int)) (by rfl) rfl rfl HE6 (by kernel_rfl) (show (2 : Nat) ≤ 2 from Nat.le_refl 2) (by rfl) (st_whole _ _ rfl) (fun w7 HE7 b7 g7 => ?_)
    have HF7 := HF6.grown g7 (by simpa using hFE)
    have HR7 := HR6.grown g7 (by simp)
    have E7 := E6.trans (b7.mono (Nat.le_succ _))
    refine hK.out _ _ ?_ (fun hHeld => ?_)
    · exact HF7
    clear hK K
    (try simp only [Act.put, List.getElem_toArray, List.getElem_cons_zero, List.getElem_cons_succ, List.setIfInBounds_toArray, List.set_cons_zero, List.set_cons_succ])
    refine wpAnyH_done (by kernel_rfl) ?_ _
    refine NoPanic.normal ?_
    go_wp2_with fail
    refine bodyPost_ret (results_blk2 rfl rfl rfl HR7 HE7 (by kernel_rfl) (by kernel_rfl) (by kernel_rfl) (by kernel_rfl)) rfl ?_
    rw [hv.out]
    exact ⟨zLdA, rfl, zLd_in _, E7⟩
  | ok l a e =>
    obtain rfl : 0 = fe := hfe
    have h1 : ((0 : Int) == 0) = true := rfl
    obtain ⟨f1, f2, f3, f4, f5, f6, f7⟩ := hW.out l a e rfl
    have hal : a.length = l.length := by rw [f5, offs_len]
    have hok := Lib.hid (fun k (hk : k < l.length) => okTl_all (f1 _ (List.getElem_mem hk)))
    have hll : l.length ≤ 50000 := by omega
    have hel : e ≤ 100000 := by omega
    have hv : Hid (RR = ldAtK e l a 0) := by
      show _ = _
      rw [← hRR.out, ldAtK_zero]
      unfold rdLd
      rw [HT.out]
      rfl
    have has := Lib.hid (fun k (hk : k < a.length) => (show a[k] ≤ 100000 by
      have h1 : k < l.length := by omega
      have h2 := offs_get l 0 k h1
      have h3 := tlWs_take l k h1
      have h4 : a[k] = (offs 0 l)[k]'(by rw [offs_len]; exact h1) := by simp only [f5]
      rw [h4, h2]
      have h5 : (tlWs (l.take k)).length ≤ (tlWs l).length := by
        conv => rhs; rw [← List.take_append_drop k l, tlWs_app, List.length_append]
        omega
      have h6 : (tlWs l).length + 2 = e + 2 := by
        have := f3
        unfold tlWrite at this
        rw [List.length_append] at this
        exact this
      omega))
    clear f1 f2 f3 f4 f5 f6 f7 hW hbn hRR HT hfp HF5
    replace HO5 : OwnTl w5 w1.heap.size v1 l := HO5
    replace HN5 : OwnNat w5 w1.heap.size v2 a := HN5
    obtain ⟨al, cl, rfl, HL⟩ := HO5.inL
    have hNb := HN5.blk
    obtain ⟨aa, ca, rfl, HS⟩ := HN5.inL
    have hbl2R : Hid (∀ b lo, aa = some ⟨b, lo, none⟩ → w.heap.size + 1 < b) := fun b lo e => by
      subst e
      rcases hNb with q | ⟨g, C, q, h, -⟩
      · cases q
      · cases q
        have h2 : w1.heap.size ≤ b := h
        omega
    clear hNb
    have hRD : w.heap.size + 1 < w5.heap.size := HE5.lt
    clear HO5 HN5
    have HA6 := (Blk.new w5 29 (ldC zLd zLdA)).alloc (.map #[] 0)
    have HM7 := Seen.made (w5.alloc (.cells (ldC zLd zLdA) 29))
    have K7 : Below w5.heap.size w5 ((w5.alloc (.cells (ldC zLd zLdA) 29)).alloc (.map #[] 0)) := ((Below.refl _ _).alloc (Nat.le_refl _) _).alloc (by simp) _
    have hz6 : (w5.alloc (.cells (ldC zLd zLdA) 29)).heap.size = w5.heap.size + 1 := by simp
    rw [hz6] at HM7
    go_upto_region 6 with (refine alloc_blk 29 (ldC zLd zLdA) (by rfl) rfl Tryz.ldZero ?_)
    (try rw [hz6])
    generalize (w5.alloc (.cells (ldC zLd zLdA) 29)).alloc (.map #[] 0) = w7 at *
    generalize hD : w5.heap.size = D at *
    clear hz6 hmm
    have hRDh := Lib.hid hRD
    have HA6 := Lib.hid HA6
    go_wp2_with fail
    go_loopw [31] (fun i wr => ∃ k : Nat, k ≤ l.length ∧ i = .int .i64 k ∧ LdAc wr D D (ldVal (l.take k)) ∧ Seen wr (D + 1) (l.take k) ∧ Below D w5 wr ∧ Hid (Lead3 l k) ∧ Hid (RR = ldAtK e l a k)) (fun i _ => l.length - (intOf i).toNat)
    case atStart => exact ⟨0, by omega, rfl, LdAc.zero HA6.out, HM7, K7, fun j h1 h2 => by rw [if_neg (by omega)]; rfl, hv⟩
    case round =>
      obtain ⟨k, hk, rfl, HAk, HMk, Bk, hLk, hRk⟩ := hrel
      by_cases hlt : k < l.length
      · have hka : k < a.length := by omega
        have hbl2D : Hid (∀ b lo, aa = some ⟨b, lo, none⟩ → b < D) := fun b lo e => by
          obtain ⟨b', lo', e', h', -⟩ := HS.at hka
          rw [e] at e'
          cases e'
          rw [← hD]
          exact h'
        obtain ⟨b, lo, rfl, hbl, hat⟩ := (HL.below (by rw [hD]; exact Bk)).at hlt
        obtain ⟨b2, lo2, rfl, hbl2, hat2⟩ := (HS.below (by rw [hD]; exact Bk)).at hka
        have q1 : (k : Int) < (l.length : Int) := by omega
        have q2 : decide ((k : Int) < (l.length : Int)) = true := decide_eq_true q1
        have q3 : (0 : Int) ≤ (k : Int) := by omega
        have q5 : (k : Int) < (a.length : Int) := by omega
        have HK := hat k hlt
        have HKS : Hid (∀ W, Below D w5 W → W.cell? ⟨b2, lo2 + k, none⟩ = some (.int .i64 (a[k] : Nat))) := fun W hW => by
          obtain ⟨b', lo', e', -, h'⟩ := (HS.below (by rw [hD]; exact hW)).at hka
          cases e'
          have q := h' k hka 0 (.int .i64 (a[k] : Nat)) rfl
          rw [Nat.mul_one, Nat.add_zero] at q
          exact q
        have h1 := hok.out k hlt
        have h2 := has.out k hka
        have HST := Lib.hid (ldAtK_step e l a k hlt)
        have HBD := Lib.hid (ldAtK_bad e l a k hlt hka)
        have HSV := Lib.hid (ldVal_snoc l k hlt)
        have HSN : Hid (l.take (k + 1) = l.take k ++ [l[k]]) := by show _ = _; rw [List.take_add_one, List.getElem?_eq_getElem hlt]; rfl
        obtain ⟨z4, z5, z6, z7, z8, z9⟩ := fold_empty (l.take k)
        have hlk : (l.take k).length ≤ k := by rw [List.length_take]; omega
        generalize l[k] = x at *
        generalize a[k] = ak at *
        obtain ⟨xk, xt⟩ := x
        simp only at h1 HST HBD HSV
        obtain ⟨kn, rfl⟩ : ∃ kn : Nat, xk = (kn : Int) := ⟨xk.toNat, by omega⟩
        have hkn : kn < 128 := by omega
        have hcl := cntK_le (kn : Int) (l.take k)
        have hll2 : (l.take k).length ≤ 100000 := by omega
        have hTD : D ≤ wr.heap.size := by have := Bk.size; omega
        go_upto_region 9 with (first
          | (refine load_cells (B := b) (k := lo + k * 2) 80 (tlC ⟨(kn : Int), xt⟩) (by rfl) rfl rfl HK (by kernel_rfl) (by kernel_rfl) ?_)
          | (refine alloc_blk 80 (tlC zTl) (by rfl) rfl Tryz.tlZero ?_)
          | (refine store_blk (k := 0) 80 (.agg (tlC ⟨(kn : Int), xt⟩)) (tlC ⟨(kn : Int), xt⟩) (by rfl) rfl rfl rfl (Blk.new wr _ _) (by kernel_rfl) (Nat.le_of_eq rfl) (by rfl) (st_whole _ _ rfl) ?_; intro w8 HT8 b8 g8))
        (try simp only [Act.put, List.setIfInBounds_toArray, List.set_cons_zero, List.set_cons_succ])
        have A8 : Below wr.heap.size wr w8 := ((Below.refl _ _).alloc (Nat.le_refl _) _).trans b8
        have HA8 := HAk.kept A8
        have HM8 := HMk.kept A8
        have B8 := Bk.trans (A8.mono hTD)
        have hM8 := HM8.lt
        have hDM : D + 1 < wr.heap.size := HMk.lt
        clear b8 g8 A8 HAk HMk Bk HK hbl hbl2
        generalize wr.heap.size = T at *
        have hxs : xt.size ≤ 100000 := by omega
        go_wp2_with (refine load_blk (k := 0) 80 (tlC ⟨(kn : Int), xt⟩) (by rfl) rfl rfl HT8 (by kernel_rfl) (by kernel_rfl) rfl ?_)
        refine (parts_any (k := (kn : Int)) w8 hxs).mono ?_
        rintro r w9 ⟨y, q, bo, rfl, HY, hPV, b9⟩
        have HT9 := HT8.kept b9
        have HA9 := HA8.kept b9
        have HM9 := HM8.kept b9
        have hD8 : D ≤ w8.heap.size := by have := B8.size; have := HT8.lt; omega
        have B9 := B8.trans (b9.mono hD8)
        clear HT8 HA8 HM8 B8
        have HB10 := Blk.new w9 29 (ldC zLd zLdA)
        have hT9 := HT9.lt
        have hA9 := HA9.lt
        have hz8 := b9.size
        have hcb : cntK (kn : Int) (l.take k) ≤ 50000 := by omega
        have hwr : IntKind.i64.wrap (((cntK (kn : Int) (l.take k) : Nat) : Int) + 1) = ((cntK (kn : Int) (l.take k) : Nat) : Int) + 1 := by rw [IntKind.wrap_i64] <;> omega
        go_upto_region 10 with (first
          | (refine alloc_blk 29 (ldC zLd zLdA) (by rfl) rfl Tryz.ldZero ?_)
          | (refine store_blk (k := 0) 29 (.agg (ldC y q)) (ldC y q) (by rfl) rfl rfl rfl HB10 (by kernel_rfl) (Nat.le_of_eq rfl) (by rfl) (st_whole _ _ rfl) ?_; intro w11 HB11 b11 g11))
        have A11 : Below w9.heap.size w9 w11 := ((Below.refl _ _).alloc (Nat.le_refl _) _).trans b11
        have HT11 := HT9.kept A11
        have HA11 := HA9.kept A11
        have HM11 := HM9.kept A11
        have HY11 := HY.kept A11
        have B11 : Below D w5 w11 := B9.trans (A11.mono (by omega))
        clear HT9 HA9 HM9 HY B9 HB10 A11 b11 g11 b9
        have hYl := HB11.lt
        generalize w9.heap.size = Y at *
        have k11 := HT11.cv 0 (.int .i64 (kn : Int)) rfl
        go_upto_region 11 with (first
          | (refine seen_look (B := D + 1) (k := (kn : Int)) (l := l.take k) (by rfl) rfl rfl rfl HM11 (by omega) ?_)
          | (refine seen_put (B := D + 1) (t := ⟨(kn : Int), xt⟩) (l := l.take k) rfl rfl rfl rfl rfl HM11 (by show _ ≤ (kn : Int) ∧ (kn : Int) ≤ _; omega) hll2 ?_; intro w12 HM12 g12))
        (try simp only [Act.put, List.setIfInBounds_toArray, List.set_cons_zero, List.set_cons_succ])
        have hz12 := g12.size
        have HT12 := HT11.seen HM11 g12
        have HB12 := HB11.seen HM11 g12
        have HA12 := HA11.seen HM11 g12
        have HY12 := HY11.seen HM11 g12
        have B12 : Below D w5 w12 := B11.grown g12 (by omega) (fun q hq => by cases hq; omega)
        clear HT11 HB11 HA11 HY11 HM11 B11 g12 k11
        replace HLk := Lib.hid hLk
        replace HRk := Lib.hid hRk
        have HPV := Lib.hid hPV
        generalize hcc : cntK (kn : Int) (l.take k) = c at *
        have HCC := Lib.hid hcc
        clear hcc hPV hwr hcl hlk hll2
        obtain ⟨V, hV⟩ : ∃ V, V = vrd ⟨(kn : Int), xt⟩ k c := ⟨_, rfl⟩
        rw [← hV] at HST HBD
        replace hV := Lib.hid hV
        generalize hE8 : w8.heap.size = E8 at *
        have hE12 : Hid (E8 ≤ w12.heap.size) := by show _ ≤ _; omega
        have hT12 := HT12.lt
        have hB12 := HB12.lt
        have k12 := HT12.cv 0 (.int .i64 (kn : Int)) rfl
        have t12 := HT12.cv 1 (.string xt) rfl
        clear hE8
        go_upto_block 2 with (fail)
        go_cut [14] from 46 to 91 (fun v wx => (∃ g, v = .bool g ∧ (bo = true → formK (kn : Int) xt.data.toList = true → g = goodK (kn : Int) xt.data.toList)) ∧ Below w12.heap.size w12 wx)
        case first =>
          clear HST HBD HSV HSN HKS HLk HRk hRk hLk hV HA12 HM12 hE12 B12 z4 z5 z6 z7 z8 z9
          by_cases n1 : kn = 1
          · subst n1
            have h3 := Lib.hid (HPV.out (by simp))
            clear HPV
            go_wp2_with (refine load_blk (k := 0) 23 (nmC y.ch) (by rfl) rfl rfl HB12 (by kernel_rfl) (by kernel_rfl) rfl ?_)
            refine (nameRight_any y.ch _).mono ?_
            rintro r w13 ⟨rfl, b13⟩
            go_wp2_with fail
            go_meet
            refine ⟨⟨_, rfl, fun hb hf => ?_⟩, b13⟩
            rw [h3.out.2 hb]
            show okNm (addLd zLd ⟨1, xt⟩).ch = goodK 1 _
            rw [addLd1, goodK1]
          by_cases n2 : kn = 2
          · subst n2
            have h3 := Lib.hid (HPV.out (by simp))
            clear HPV
            go_wp2_with (refine load_blk (k := 2) 23 (nmC y.po) (by rfl) rfl rfl HB12 (by kernel_rfl) (by kernel_rfl) rfl ?_)
            refine (nameRight_any y.po _).mono ?_
            rintro r w13 ⟨rfl, b13⟩
            go_wp2_with fail
            go_meet
            refine ⟨⟨_, rfl, fun hb hf => ?_⟩, b13⟩
            rw [h3.out.2 hb]
            show okNm (addLd zLd ⟨2, xt⟩).po = goodK 2 _
            rw [addLd2, goodK2]
          have i1 : decide ((kn : Int) = 1) = false := decide_eq_false (by omega)
          have i2 : decide ((kn : Int) = 2) = false := decide_eq_false (by omega)
          have j1 : ((kn : Int) == 1) = false := by simp; omega
          have j2 : ((kn : Int) == 2) = false := by simp; omega
          by_cases n4 : kn = 4
          · subst n4
            clear HPV i1 i2 j1 j2
            go_wp2_with fail
            go_meet
            refine ⟨⟨_, rfl, fun hb hf => ?_⟩, Below.refl _ _⟩
            show _ = goodK 4 _
            rw [goodK4]
            show decide _ = decide _
            rfl
          have i4 : decide ((kn : Int) = 4) = false := decide_eq_false (by omega)
          have j4 : ((kn : Int) == 4) = false := by simp; omega
          by_cases n5 : kn = 5
          · subst n5
            clear HPV i1 i2 j1 j2
            go_wp2_with fail
            go_meet
            refine ⟨⟨_, rfl, fun hb hf => ?_⟩, Below.refl _ _⟩
            show _ = goodK 5 _
            rw [goodK5]
            show decide _ = decide _
            rfl
          have i5 : decide ((kn : Int) = 5) = false := decide_eq_false (by omega)
          have j5 : ((kn : Int) == 5) = false := by simp; omega
          by_cases n6 : kn = 6
          · subst n6
            clear HPV i1 i2 j1 j2
            go_wp2_with fail
            go_meet
            refine ⟨⟨_, rfl, fun hb hf => ?_⟩, Below.refl _ _⟩
            show _ = goodK 6 _
            rw [goodK6]
            show decide _ = decide _
            rfl
          have i6 : decide ((kn : Int) = 6) = false := decide_eq_false (by omega)
          have j6 : ((kn : Int) == 6) = false := by simp; omega
          by_cases n7 : kn = 7
          · subst n7
            have h3 := Lib.hid (HPV.out (by simp))
            clear HPV
            cases bo with
            | false =>
              go_wp2_with fail
              go_meet
              exact ⟨⟨_, rfl, fun hb => by cases hb⟩, Below.refl _ _⟩
            | true =>
              have hca : Hid (y.ca = [cpOf xt.data.toList]) := by
                show _ = _
                rw [h3.out.2 rfl]
                show (addLd zLd ⟨7, xt⟩).ca = _
                rw [addLd7]
                rfl
              obtain ⟨a1, c1, e1, i1⟩ := HY12.2.2.2.1.inL
              cases e1
              rw [hca.out] at i1
              rcases i1 with i1 | ⟨gb, go, e2, hgb, hat⟩
              · cases i1
              have c8 := HB12.cv 8 (.slice q.ca.1 y.ca.length q.ca.2) rfl
              rw [e2, hca.out] at c8
              have hc0 : CellsAt w12 gb go (cpC (cpOf xt.data.toList)) := by simpa using hat 0 (by simp)
              clear hat e2 HY12
              go_wp2_with (refine load_cells (B := gb) (k := go) 86 (cpC (cpOf xt.data.toList)) (by rfl) rfl rfl hc0 (by kernel_rfl) (by kernel_rfl) ?_)
              refine (capsRight_any _ _).mono ?_
              rintro r w13 ⟨rfl, b13⟩
              go_wp2_with fail
              go_meet
              refine ⟨⟨_, rfl, fun hb hf => ?_⟩, b13⟩
              rw [okCpR_eq]
              show _ = goodK 7 _
              rw [goodK7]
          have i7 : decide ((kn : Int) = 7) = false := decide_eq_false (by omega)
          have j7 : ((kn : Int) == 7) = false := by simp; omega
          by_cases n8 : kn = 8
          · subst n8
            have h3 := Lib.hid (HPV.out (by simp))
            clear HPV
            cases bo with
            | false =>
              go_wp2_with fail
              go_meet
              exact ⟨⟨_, rfl, fun hb => by cases hb⟩, Below.refl _ _⟩
            | true =>
              have hca : Hid (y.ma = [mgOf xt.data.toList]) := by
                show _ = _
                rw [h3.out.2 rfl]
                show (addLd zLd ⟨8, xt⟩).ma = _
                rw [addLd8]
                rfl
              have hfm := h3.out.1.symm
              rw [show ((8 : Nat) : Int) = 8 from rfl, formK8] at hfm
              have hfm2 := of_decide_eq_true hfm
              have hx0 : 0 < xt.size := by have : xt.data.toList.length = xt.size := by simp
                                           omega
              obtain ⟨a1, c1, e1, i1⟩ := HY12.2.2.2.2.1.inL
              cases e1
              rw [hca.out] at i1
              rcases i1 with i1 | ⟨gb, go, e2, hgb, hat⟩
              · cases i1
              have c9 := HB12.cv 9 (.slice q.ma.1 y.ma.length q.ma.2) rfl
              rw [e2, hca.out] at c9
              have hc0 : CellsAt w12 gb go (mgC (mgOf xt.data.toList)) := by simpa using hat 0 (by simp)
              have hT12 := HT12
              clear hat e2 HY12 hfm
              go_wp2_with (refine load_cells (B := gb) (k := go) 89 (mgC (mgOf xt.data.toList)) (by rfl) rfl rfl hc0 (by kernel_rfl) (by kernel_rfl) ?_)
              refine (manageRight_any _ _).mono ?_
              rintro r w13 ⟨rfl, b13⟩
              have t13 := (hT12.kept b13).cv 1 (.string xt) rfl
              rw [okMgR_eq]
              cases hmg : okMg (mgOf xt.data.toList) with
              | false =>
                go_wp2_with fail
                go_meet
                refine ⟨⟨_, rfl, fun hb hf => ?_⟩, b13⟩
                show _ = goodK 8 _
                rw [goodK8, hmg]
              | true =>
                go_wp2_with fail
                go_meet
                refine ⟨⟨_, rfl, fun hb hf => ?_⟩, b13⟩
                show _ = goodK 8 _
                rw [goodK8, hmg]
                exact decide_eq_true (mg_first hx0 hmg)
          have i8 : decide ((kn : Int) = 8) = false := decide_eq_false (by omega)
          have j8 : ((kn : Int) == 8) = false := by simp; omega
          clear HPV
          go_wp2_with fail
          go_meet
          refine ⟨⟨_, rfl, fun hb hf => ?_⟩, Below.refl _ _⟩
          by_cases n3 : kn = 3
          · subst n3
            rfl
          · have hg : goodK (kn : Int) xt.data.toList = okOg (ogOf xt.data.toList) := by
              unfold goodK
              rw [if_neg (by omega), if_neg (by omega), if_neg (by omega), if_neg (by omega), if_neg (by omega), if_neg (by omega), if_neg (by omega), if_neg (by omega)]
            rw [hg, okOg_of _ (by simp; omega)]
        case rest =>
          obtain ⟨⟨g, rfl, hg⟩, b13⟩ := hcut
          have HT13 := HT12.kept b13
          have HB13 := HB12.kept b13
          have HA13 := HA12.kept b13
          have HY13 := HY12.kept b13
          have HM13 := HM12.kept b13
          have B13 := B12.trans (b13.mono (by omega))
          have hz13 := b13.size
          have HG := Lib.hid hg
          clear HT12 HB12 HA12 HY12 HM12 B12 b13 k12 t12 hg
          generalize wc = w13 at *
          have hC1 : Hid (cntK (kn : Int) (l.take k ++ [⟨(kn : Int), xt⟩]) = c + 1) := by
            show _ = _
            rw [cntK_app, cntK_cons, if_pos rfl, HCC.out]
            rfl
          have k13 := HT13.cv 0 (.int .i64 (kn : Int)) rfl
          have hk1 : IntKind.i64.wrap ((k : Int) + 1) = (k : Int) + 1 := by rw [IntKind.wrap_i64] <;> omega
          go_upto_block 3 with (fail)
          go_cut [15] from 92 to 141 (fun v wx => v = .int .i64 V ∧ Below w13.heap.size w13 wx)
          case first =>
            clear HST HBD HSV HSN HKS HRk hRk hLk HA13 HY13 HB13 B13 z4 z5 z6 z7 z8 z9 hE12
            have HL3 := Lib.hid (fun h1 h2 => HLk.out kn h1 h2)
            by_cases A1 : k < 3
            · have A3 : ¬ 3 ≤ k := by omega
              have y1 : decide ((k : Int) < 3) = true := decide_eq_true (by omega)
              have y2 : decide (k < 3) = true := decide_eq_true (by omega)
              have y3 : decide ((3 : Int) ≤ (k : Int)) = false := decide_eq_false (by omega)
              have y4 : decide (3 ≤ k) = false := decide_eq_false (by omega)
              by_cases A2 : kn = k + 1
              · have hc0 : c = 0 := by have := HL3.out (by omega) (by omega); rw [HCC.out, if_neg (by omega)] at this; exact this
                have z0 : ((kn : Int) != ((k : Int) + 1)) = false := by simp; omega
                have y5 : decide ((8 : Int) < (kn : Int)) = false := decide_eq_false (by omega)
                have y6 : decide (8 < kn) = false := decide_eq_false (by omega)
                clear HL3 HLk HCC
                have hwn : Hid (wthn (kn : Int) 4 7 = false) := wthn_out (by omega)
                have hkn2 : (kn : Int) ∈ ([1, 2, 3, 4, 5, 6, 7, 8, 127] : List Int) := known_of (by omega) (by omega)
                have hms : misK (kn : Int) k c = 0 := mis_zero (fun _ => by omega) (by omega) (fun _ => by omega)
                have hvt := Lib.hid (vrd_tail (t := ⟨(kn : Int), xt⟩) (i := k) (c := c) hms)
                have h3 := Lib.hid (HPV.out hkn2)
                have hfb : Hid (formK (kn : Int) (txT ⟨(kn : Int), xt⟩) = bo) := h3.out.1.symm
                clear hms hkn2
                replace A2 := Lib.hid A2
                replace hc0 := Lib.hid hc0
                go_wp2_with fail
                refine (withinRf_any (kn : Int) 4 7 w13).mono ?_
                rintro r w14 ⟨rfl, b14⟩
                rw [hwn.out]
                have HM14 := HM13.kept b14
                have k14 := (HT13.kept b14).cv 0 (.int .i64 (kn : Int)) rfl
                cases bo with
                | false =>
                  go_wp2_with (first | (refine seen_lookN (B := D + 1) (k := (kn : Int)) (l := l.take k ++ [⟨(kn : Int), xt⟩]) (n := c + 1) hC1.out (by rfl) rfl rfl rfl HM14 (by omega) ?_))
                  go_meet
                  exact ⟨by rw [hV.out, hvt.out, hfb.out, if_pos rfl], b14⟩
                | true =>
                  have hgb : Hid (goodK (kn : Int) (txT ⟨(kn : Int), xt⟩) = g) := (HG.out rfl hfb.out).symm
                  cases g with
                  | false =>
                    go_wp2_with (first | (refine seen_lookN (B := D + 1) (k := (kn : Int)) (l := l.take k ++ [⟨(kn : Int), xt⟩]) (n := c + 1) hC1.out (by rfl) rfl rfl rfl HM14 (by omega) ?_))
                    go_meet
                    exact ⟨by rw [hV.out, hvt.out, hfb.out, if_neg (by decide), hgb.out, if_pos rfl], b14⟩
                  | true =>
                    by_cases hc20 : 20 ≤ c
                    · have u1 : decide ((20 : Int) < (c : Int) + 1) = true := decide_eq_true (by omega)
                      have u2 : decide ((20 : Int) < ((c + 1 : Nat) : Int)) = true := decide_eq_true (by omega)
                      have u3 : decide (20 < c + 1) = true := decide_eq_true (by omega)
                      go_wp2_with (first | (refine seen_lookN (B := D + 1) (k := (kn : Int)) (l := l.take k ++ [⟨(kn : Int), xt⟩]) (n := c + 1) hC1.out (by rfl) rfl rfl rfl HM14 (by omega) ?_))
                      go_meet
                      exact ⟨by rw [hV.out, hvt.out, hfb.out, if_neg (by decide), hgb.out, if_neg (by decide), if_pos hc20], b14⟩
                    · have u1 : decide ((20 : Int) < (c : Int) + 1) = false := decide_eq_false (by omega)
                      have u2 : decide ((20 : Int) < ((c + 1 : Nat) : Int)) = false := decide_eq_false (by omega)
                      have u3 : decide (20 < c + 1) = false := decide_eq_false (by omega)
                      go_wp2_with (first | (refine seen_lookN (B := D + 1) (k := (kn : Int)) (l := l.take k ++ [⟨(kn : Int), xt⟩]) (n := c + 1) hC1.out (by rfl) rfl rfl rfl HM14 (by omega) ?_))
                      go_meet
                      exact ⟨by rw [hV.out, hvt.out, hfb.out, if_neg (by decide), hgb.out, if_neg (by decide), if_neg hc20], b14⟩
              · skip
                have z0 : ((kn : Int) != ((k : Int) + 1)) = true := by simp; omega
                go_wp2_with fail
                go_meet
                exact ⟨by rw [hV.out, vrd_mis (m := 10) (by show misK (kn : Int) k c = 10; unfold misK; rw [if_pos (by omega)]) (by decide)], Below.refl _ _⟩
            · have A3 : 3 ≤ k := by omega
              have y7 : decide ((k : Int) < 3) = false := decide_eq_false (by omega)
              have y8 : decide (k < 3) = false := decide_eq_false (by omega)
              have y9 : decide ((3 : Int) ≤ (k : Int)) = true := decide_eq_true (by omega)
              have y10 : decide (3 ≤ k) = true := decide_eq_true (by omega)
              by_cases A4 : kn ≤ 3
              · have hc1 : 0 < c := by have := HL3.out (by omega) (by omega); rw [HCC.out, if_pos (by omega)] at this; omega
                have y11 : decide ((kn : Int) ≤ 3) = true := decide_eq_true (by omega)
                have y12 : decide (kn ≤ 3) = true := decide_eq_true (by omega)
                go_wp2_with fail
                go_meet
                exact ⟨by rw [hV.out, vrd_mis (m := 9) (by show misK (kn : Int) k c = 9; unfold misK; rw [if_neg (by omega), if_neg (by omega), if_pos (by omega)]) (by decide)], Below.refl _ _⟩
              · skip
                have y13 : decide ((kn : Int) ≤ 3) = false := decide_eq_false (by omega)
                have y14 : decide (kn ≤ 3) = false := decide_eq_false (by omega)
                by_cases A5 : 8 < kn
                · skip
                  have y15 : decide ((8 : Int) < (kn : Int)) = true := decide_eq_true (by omega)
                  have y16 : decide (8 < kn) = true := decide_eq_true (by omega)
                  by_cases A6 : kn = 127
                  · skip
                    have z0 : ((kn : Int) != (127 : Int)) = false := by simp; omega
                    clear HL3 HLk HCC
                    have hwn : Hid (wthn (kn : Int) 4 7 = false) := wthn_out (by omega)
                    have hkn2 : (kn : Int) ∈ ([1, 2, 3, 4, 5, 6, 7, 8, 127] : List Int) := known_of (by omega) (by omega)
                    have hms : misK (kn : Int) k c = 0 := mis_zero (fun _ => by omega) (by omega) (fun _ => by omega)
                    have hvt := Lib.hid (vrd_tail (t := ⟨(kn : Int), xt⟩) (i := k) (c := c) hms)
                    have h3 := Lib.hid (HPV.out hkn2)
                    have hfb : Hid (formK (kn : Int) (txT ⟨(kn : Int), xt⟩) = bo) := h3.out.1.symm
                    clear hms hkn2
                    replace A6 := Lib.hid A6
                    go_wp2_with fail
                    refine (withinRf_any (kn : Int) 4 7 w13).mono ?_
                    rintro r w14 ⟨rfl, b14⟩
                    rw [hwn.out]
                    have HM14 := HM13.kept b14
                    have k14 := (HT13.kept b14).cv 0 (.int .i64 (kn : Int)) rfl
                    cases bo with
                    | false =>
                      go_wp2_with (first | (refine seen_lookN (B := D + 1) (k := (kn : Int)) (l := l.take k ++ [⟨(kn : Int), xt⟩]) (n := c + 1) hC1.out (by rfl) rfl rfl rfl HM14 (by omega) ?_))
                      go_meet
                      exact ⟨by rw [hV.out, hvt.out, hfb.out, if_pos rfl], b14⟩
                    | true =>
                      have hgb : Hid (goodK (kn : Int) (txT ⟨(kn : Int), xt⟩) = g) := (HG.out rfl hfb.out).symm
                      cases g with
                      | false =>
                        go_wp2_with (first | (refine seen_lookN (B := D + 1) (k := (kn : Int)) (l := l.take k ++ [⟨(kn : Int), xt⟩]) (n := c + 1) hC1.out (by rfl) rfl rfl rfl HM14 (by omega) ?_))
                        go_meet
                        exact ⟨by rw [hV.out, hvt.out, hfb.out, if_neg (by decide), hgb.out, if_pos rfl], b14⟩
                      | true =>
                        by_cases hc20 : 20 ≤ c
                        · have u1 : decide ((20 : Int) < (c : Int) + 1) = true := decide_eq_true (by omega)
                          have u2 : decide ((20 : Int) < ((c + 1 : Nat) : Int)) = true := decide_eq_true (by omega)
                          have u3 : decide (20 < c + 1) = true := decide_eq_true (by omega)
                          go_wp2_with (first | (refine seen_lookN (B := D + 1) (k := (kn : Int)) (l := l.take k ++ [⟨(kn : Int), xt⟩]) (n := c + 1) hC1.out (by rfl) rfl rfl rfl HM14 (by omega) ?_))
                          go_meet
                          exact ⟨by rw [hV.out, hvt.out, hfb.out, if_neg (by decide), hgb.out, if_neg (by decide), if_pos hc20], b14⟩
                        · have u1 : decide ((20 : Int) < (c : Int) + 1) = false := decide_eq_false (by omega)
                          have u2 : decide ((20 : Int) < ((c + 1 : Nat) : Int)) = false := decide_eq_false (by omega)
                          have u3 : decide (20 < c + 1) = false := decide_eq_false (by omega)
                          go_wp2_with (first | (refine seen_lookN (B := D + 1) (k := (kn : Int)) (l := l.take k ++ [⟨(kn : Int), xt⟩]) (n := c + 1) hC1.out (by rfl) rfl rfl rfl HM14 (by omega) ?_))
                          go_meet
                          exact ⟨by rw [hV.out, hvt.out, hfb.out, if_neg (by decide), hgb.out, if_neg (by decide), if_neg hc20], b14⟩
                  · skip
                    have z0 : ((kn : Int) != (127 : Int)) = true := by simp; omega
                    go_wp2_with fail
                    go_meet
                    exact ⟨by rw [hV.out, vrd_mis (m := 5) (by show misK (kn : Int) k c = 5; unfold misK; rw [if_neg (by omega), if_pos (by omega)]) (by decide)], Below.refl _ _⟩
                · skip
                  have y17 : decide ((8 : Int) < (kn : Int)) = false := decide_eq_false (by omega)
                  have y18 : decide (8 < kn) = false := decide_eq_false (by omega)
                  by_cases A7 : kn = 8
                  · skip
                    clear HL3 HLk HCC
                    have hwn : Hid (wthn (kn : Int) 4 7 = false) := wthn_out (by omega)
                    have hkn2 : (kn : Int) ∈ ([1, 2, 3, 4, 5, 6, 7, 8, 127] : List Int) := known_of (by omega) (by omega)
                    have hms : misK (kn : Int) k c = 0 := mis_zero (fun _ => by omega) (by omega) (fun _ => by omega)
                    have hvt := Lib.hid (vrd_tail (t := ⟨(kn : Int), xt⟩) (i := k) (c := c) hms)
                    have h3 := Lib.hid (HPV.out hkn2)
                    have hfb : Hid (formK (kn : Int) (txT ⟨(kn : Int), xt⟩) = bo) := h3.out.1.symm
                    clear hms hkn2
                    replace A7 := Lib.hid A7
                    go_wp2_with fail
                    refine (withinRf_any (kn : Int) 4 7 w13).mono ?_
                    rintro r w14 ⟨rfl, b14⟩
                    rw [hwn.out]
                    have HM14 := HM13.kept b14
                    have k14 := (HT13.kept b14).cv 0 (.int .i64 (kn : Int)) rfl
                    cases bo with
                    | false =>
                      go_wp2_with (first | (refine seen_lookN (B := D + 1) (k := (kn : Int)) (l := l.take k ++ [⟨(kn : Int), xt⟩]) (n := c + 1) hC1.out (by rfl) rfl rfl rfl HM14 (by omega) ?_))
                      go_meet
                      exact ⟨by rw [hV.out, hvt.out, hfb.out, if_pos rfl], b14⟩
                    | true =>
                      have hgb : Hid (goodK (kn : Int) (txT ⟨(kn : Int), xt⟩) = g) := (HG.out rfl hfb.out).symm
                      cases g with
                      | false =>
                        go_wp2_with (first | (refine seen_lookN (B := D + 1) (k := (kn : Int)) (l := l.take k ++ [⟨(kn : Int), xt⟩]) (n := c + 1) hC1.out (by rfl) rfl rfl rfl HM14 (by omega) ?_))
                        go_meet
                        exact ⟨by rw [hV.out, hvt.out, hfb.out, if_neg (by decide), hgb.out, if_pos rfl], b14⟩
                      | true =>
                        by_cases hc20 : 20 ≤ c
                        · have u1 : decide ((20 : Int) < (c : Int) + 1) = true := decide_eq_true (by omega)
                          have u2 : decide ((20 : Int) < ((c + 1 : Nat) : Int)) = true := decide_eq_true (by omega)
                          have u3 : decide (20 < c + 1) = true := decide_eq_true (by omega)
                          go_wp2_with (first | (refine seen_lookN (B := D + 1) (k := (kn : Int)) (l := l.take k ++ [⟨(kn : Int), xt⟩]) (n := c + 1) hC1.out (by rfl) rfl rfl rfl HM14 (by omega) ?_))
                          go_meet
                          exact ⟨by rw [hV.out, hvt.out, hfb.out, if_neg (by decide), hgb.out, if_neg (by decide), if_pos hc20], b14⟩
                        · have u1 : decide ((20 : Int) < (c : Int) + 1) = false := decide_eq_false (by omega)
                          have u2 : decide ((20 : Int) < ((c + 1 : Nat) : Int)) = false := decide_eq_false (by omega)
                          have u3 : decide (20 < c + 1) = false := decide_eq_false (by omega)
                          go_wp2_with (first | (refine seen_lookN (B := D + 1) (k := (kn : Int)) (l := l.take k ++ [⟨(kn : Int), xt⟩]) (n := c + 1) hC1.out (by rfl) rfl rfl rfl HM14 (by omega) ?_))
                          go_meet
                          exact ⟨by rw [hV.out, hvt.out, hfb.out, if_neg (by decide), hgb.out, if_neg (by decide), if_neg hc20], b14⟩
                  · skip
                    clear HL3 HLk HCC
                    have hwn : Hid (wthn (kn : Int) 4 7 = true) := wthn_in (by omega)
                    go_wp2_with fail
                    refine (withinRf_any (kn : Int) 4 7 w13).mono ?_
                    rintro r w14 ⟨rfl, b14⟩
                    rw [hwn.out]
                    have HM14 := HM13.kept b14
                    have k14 := (HT13.kept b14).cv 0 (.int .i64 (kn : Int)) rfl
                    by_cases A8 : 0 < c
                    · skip
                      have y19 : decide ((1 : Int) < (c : Int) + 1) = true := decide_eq_true (by omega)
                      have y20 : decide ((1 : Int) < ((c + 1 : Nat) : Int)) = true := decide_eq_true (by omega)
                      have y21 : decide (1 < c + 1) = true := decide_eq_true (by omega)
                      have y22 : decide (0 < c) = true := decide_eq_true (by omega)
                      have y23 : decide ((0 : Int) < (c : Int)) = true := decide_eq_true (by omega)
                      go_wp2_with (first | (refine seen_lookN (B := D + 1) (k := (kn : Int)) (l := l.take k ++ [⟨(kn : Int), xt⟩]) (n := c + 1) hC1.out (by rfl) rfl rfl rfl HM14 (by omega) ?_))
                      go_meet
                      exact ⟨by rw [hV.out, vrd_mis (m := 9) (by show misK (kn : Int) k c = 9; unfold misK; rw [if_neg (by omega), if_neg (by omega), if_pos (by omega)]) (by decide)], b14⟩
                    · skip
                      have y24 : decide ((1 : Int) < (c : Int) + 1) = false := decide_eq_false (by omega)
                      have y25 : decide ((1 : Int) < ((c + 1 : Nat) : Int)) = false := decide_eq_false (by omega)
                      have y26 : decide (1 < c + 1) = false := decide_eq_false (by omega)
                      have y27 : decide (0 < c) = false := decide_eq_false (by omega)
                      have y28 : decide ((0 : Int) < (c : Int)) = false := decide_eq_false (by omega)
                      have hkn2 : (kn : Int) ∈ ([1, 2, 3, 4, 5, 6, 7, 8, 127] : List Int) := known_of (by omega) (by omega)
                      have hms : misK (kn : Int) k c = 0 := mis_zero (fun _ => by omega) (by omega) (fun _ => by omega)
                      have hvt := Lib.hid (vrd_tail (t := ⟨(kn : Int), xt⟩) (i := k) (c := c) hms)
                      have h3 := Lib.hid (HPV.out hkn2)
                      have hfb : Hid (formK (kn : Int) (txT ⟨(kn : Int), xt⟩) = bo) := h3.out.1.symm
                      clear hms hkn2
                      cases bo with
                      | false =>
                        go_wp2_with (first | (refine seen_lookN (B := D + 1) (k := (kn : Int)) (l := l.take k ++ [⟨(kn : Int), xt⟩]) (n := c + 1) hC1.out (by rfl) rfl rfl rfl HM14 (by omega) ?_))
                        go_meet
                        exact ⟨by rw [hV.out, hvt.out, hfb.out, if_pos rfl], b14⟩
                      | true =>
                        have hgb : Hid (goodK (kn : Int) (txT ⟨(kn : Int), xt⟩) = g) := (HG.out rfl hfb.out).symm
                        cases g with
                        | false =>
                          go_wp2_with (first | (refine seen_lookN (B := D + 1) (k := (kn : Int)) (l := l.take k ++ [⟨(kn : Int), xt⟩]) (n := c + 1) hC1.out (by rfl) rfl rfl rfl HM14 (by omega) ?_))
                          go_meet
                          exact ⟨by rw [hV.out, hvt.out, hfb.out, if_neg (by decide), hgb.out, if_pos rfl], b14⟩
                        | true =>
                          by_cases hc20 : 20 ≤ c
                          · exact absurd hc20 (by omega)
                          · have u1 : decide ((20 : Int) < (c : Int) + 1) = false := decide_eq_false (by omega)
                            have u2 : decide ((20 : Int) < ((c + 1 : Nat) : Int)) = false := decide_eq_false (by omega)
                            have u3 : decide (20 < c + 1) = false := decide_eq_false (by omega)
                            go_wp2_with (first | (refine seen_lookN (B := D + 1) (k := (kn : Int)) (l := l.take k ++ [⟨(kn : Int), xt⟩]) (n := c + 1) hC1.out (by rfl) rfl rfl rfl HM14 (by omega) ?_))
                            go_meet
                            exact ⟨by rw [hV.out, hvt.out, hfb.out, if_neg (by decide), hgb.out, if_neg (by decide), if_neg hc20], b14⟩
          case rest =>
            obtain ⟨rfl, b14⟩ := hcut
            have HT14 := HT13.kept b14
            have HB14 := HB13.kept b14
            have HA14 := HA13.kept b14
            have HY14 := HY13.kept b14
            have HM14 := HM13.kept b14
            have B14 := B13.trans (b14.mono (by omega))
            have hz14 := b14.size
            have hE14 : E8 ≤ wc.heap.size := by have := hE12.out; omega
            clear HT13 HB13 HA13 HY13 HM13 B13 b14 k13 HG hC1
            generalize wc = w14 at *
            have hDw : D < w14.heap.size := by have := hE12.out; omega
            by_cases hV0 : V = 0
            · have dV : (V != 0) = false := by rw [hV0]; rfl
              have hvz : vrd ⟨(kn : Int), xt⟩ k c = 0 := by rw [← hV.out]; exact hV0
              obtain ⟨hform, hk3, hkk, hk8⟩ := vrd_formed hvz
              have hkk' : kn ≤ 8 ∨ kn = 127 := by simp only at hkk; omega
              have hkn1 : 1 ≤ kn := by omega
              have hy : y = addLd zLd ⟨(kn : Int), xt⟩ := (HPV.out (known_of hkn1 hkk')).2 (((HPV.out (known_of hkn1 hkk')).1).trans hform)
              obtain ⟨wd, wh, ws, wc', wm, wo, yd, yh, ys, yc, ym, yo⟩ := addLd_which kn xt hkn1 hkk' y hy
              have hc4 : kn = 4 → c = 0 := fun e => hk8 (by show (kn : Int) < 8; omega)
              have hc5 : kn = 5 → c = 0 := fun e => hk8 (by show (kn : Int) < 8; omega)
              have hc6 : kn = 6 → c = 0 := fun e => hk8 (by show (kn : Int) < 8; omega)
              have hc7 : kn = 7 → c = 0 := fun e => hk8 (by show (kn : Int) < 8; omega)
              have dd : y.de = [] ∨ (ldVal (l.take k)).de = [] := wd.elim (fun e => Or.inr (z4 (by have q := HCC.out; rw [e] at q; rw [show (4 : Int) = ((4 : Nat) : Int) from rfl, q]; exact hc4 e))) Or.inl
              have dh : y.ho = [] ∨ (ldVal (l.take k)).ho = [] := wh.elim (fun e => Or.inr (z5 (by have q := HCC.out; rw [e] at q; rw [show (5 : Int) = ((5 : Nat) : Int) from rfl, q]; exact hc5 e))) Or.inl
              have ds : y.sy = [] ∨ (ldVal (l.take k)).sy = [] := ws.elim (fun e => Or.inr (z6 (by have q := HCC.out; rw [e] at q; rw [show (6 : Int) = ((6 : Nat) : Int) from rfl, q]; exact hc6 e))) Or.inl
              have dc : y.ca = [] ∨ (ldVal (l.take k)).ca = [] := wc'.elim (fun e => Or.inr (z7 (by have q := HCC.out; rw [e] at q; rw [show (7 : Int) = ((7 : Nat) : Int) from rfl, q]; exact hc7 e))) Or.inl
              have hNX : Hid (ldVal (l.take (k + 1)) = _) := Lib.hid (HSV.out.trans (addLd_parts (ldVal (l.take k)) kn xt hkn1 hkk'))
              rw [← hy] at hNX
              have hRn : Hid (RR = ldAtK e l a (k + 1)) := by show _ = _; rw [← HST.out hV0]; exact hRk.out
              have hLn : Hid (Lead3 l (k + 1)) := fun j j1 j2 => by
                rw [HSN.out, cntK_app, cntK_cons, hLk.out j j1 j2]
                have hsm : k < 3 → (kn : Int) = k + 1 := hk3
                have hlg : 3 ≤ k → ¬ (kn : Int) ≤ 3 := fun hk' => by
                  intro hle
                  have q1 := hLk.out kn hkn1 (by omega)
                  rw [HCC.out, if_pos (by omega)] at q1
                  have q2 := hk8 (by show (kn : Int) < 8; omega)
                  omega
                have hn0 : cntK (j : Int) [] = 0 := rfl
                rw [hn0]
                simp only
                by_cases q : j ≤ k
                · rw [if_pos q, if_pos (show j ≤ k + 1 by omega)]
                  have hne : ¬ (kn : Int) = (j : Int) := by
                    by_cases q3 : k < 3
                    · have := hsm q3; omega
                    · have := hlg (by omega); omega
                  rw [if_neg hne]
                · rw [if_neg q]
                  have := hsm (by omega)
                  by_cases q2 : j ≤ k + 1
                  · rw [if_pos q2, if_pos (show (kn : Int) = (j : Int) by omega)]
                  · rw [if_neg q2, if_neg (show ¬ (kn : Int) = (j : Int) by omega)]
              have hMn : Seen w14 (D + 1) (l.take (k + 1)) := by rw [HSN.out]; exact HM14
              have hlk : (l.take k).length ≤ k := by rw [List.length_take]; omega
              have hlm : (ldVal (l.take k)).ma.length ≤ 50000 := by omega
              have hlo : (ldVal (l.take k)).og.length ≤ 50000 := by omega
              clear hlk
              have hN1 : Hid (kn = 1 ∨ kn = 2 ∨ kn = 3 ∨ 3 < kn) := by show _ ∨ _; omega
              generalize hX0 : ldVal (l.take k) = X0 at *
              obtain ⟨v1, v2, v3, v4, v5, v6, HD14, HRo14⟩ := HA14.vals
              have Hdd := Lib.hid dd
              have Hdh := Lib.hid dh
              have Hds := Lib.hid ds
              have Hdc := Lib.hid dc
              have k14 := HT14.cv 0 (.int .i64 (kn : Int)) rfl
              clear HA14 HM14 hvz hform hk3 hkk hk8 wd wh ws wc' wm wo hc4 hc5 hc6 hc7 dd dh ds dc hy z4 z5 z6 z7 z8 z9 HSV HSN HST HBD HKS hRk hLk HRk HLk hV0 hX0 HCC hV HPV
              have HND : Hid (¬ D = Y) := by show ¬ _; omega
              go_upto_block 4 with (fail)
              go_cut [153] from 154 to 167 (fun _ wx => Blk wx D 29 (ldV (lead3 kn X0 y) v1 v2 v3 v4 v5 v6) ∧ w14.grownBy wx (some D))
              case first =>
                rcases hN1.out with n1 | n1 | n1 | n1
                · have HL3 : Hid (lead3 kn X0 y = ⟨y.ch, X0.po, X0.tt, X0.de, X0.ho, X0.sy, X0.ca, X0.ma, X0.og⟩) := by show _ = _; rw [n1]; rfl
                  subst n1
                  clear hN1 hNX hLn hRn hMn HRo14
                  go_wp2_with (first
                    | (refine load_blk (k := 0) 23 (nmC y.ch) (by rfl) rfl rfl HB14 (by kernel_rfl) (by kernel_rfl) rfl ?_)
                    | (refine store_blk (k := 0) 23 (.agg (nmC y.ch)) (ldV ⟨y.ch, X0.po, X0.tt, X0.de, X0.ho, X0.sy, X0.ca, X0.ma, X0.og⟩ v1 v2 v3 v4 v5 v6) (by rfl) rfl rfl rfl HD14 (by kernel_rfl) (show (0 + 2 : Nat) ≤ 11 by decide) (by rfl) rfl ?_; intro w15 HD15 b15 g15))
                  go_meet
                  exact ⟨by rw [HL3.out]; exact HD15, g15⟩
                · have HL3 : Hid (lead3 kn X0 y = ⟨X0.ch, y.po, X0.tt, X0.de, X0.ho, X0.sy, X0.ca, X0.ma, X0.og⟩) := by show _ = _; rw [n1]; rfl
                  subst n1
                  clear hN1 hNX hLn hRn hMn HRo14
                  go_wp2_with (first
                    | (refine load_blk (k := 2) 23 (nmC y.po) (by rfl) rfl rfl HB14 (by kernel_rfl) (by kernel_rfl) rfl ?_)
                    | (refine store_blk (k := 2) 23 (.agg (nmC y.po)) (ldV ⟨X0.ch, y.po, X0.tt, X0.de, X0.ho, X0.sy, X0.ca, X0.ma, X0.og⟩ v1 v2 v3 v4 v5 v6) (by rfl) rfl rfl rfl HD14 (by kernel_rfl) (show (2 + 2 : Nat) ≤ 11 by decide) (by rfl) rfl ?_; intro w15 HD15 b15 g15))
                  go_meet
                  exact ⟨by rw [HL3.out]; exact HD15, g15⟩
                · have HL3 : Hid (lead3 kn X0 y = ⟨X0.ch, X0.po, y.tt, X0.de, X0.ho, X0.sy, X0.ca, X0.ma, X0.og⟩) := by show _ = _; rw [n1]; rfl
                  subst n1
                  clear hN1 hNX hLn hRn hMn HRo14
                  have t14 := HB14.cv 4 (.int .i64 y.tt) rfl
                  go_wp2_with (first
                    | (refine store_blk (k := 4) 3 (.int .i64 y.tt) (ldV ⟨X0.ch, X0.po, y.tt, X0.de, X0.ho, X0.sy, X0.ca, X0.ma, X0.og⟩ v1 v2 v3 v4 v5 v6) (by rfl) rfl rfl rfl HD14 (by kernel_rfl) (show (4 + 1 : Nat) ≤ 11 by decide) (by rfl) rfl ?_; intro w15 HD15 b15 g15))
                  go_meet
                  exact ⟨by rw [HL3.out]; exact HD15, g15⟩
                · have HL3 : Hid (lead3 kn X0 y = ⟨X0.ch, X0.po, X0.tt, X0.de, X0.ho, X0.sy, X0.ca, X0.ma, X0.og⟩) := by show _ = _; unfold lead3; rw [if_neg (by omega), if_neg (by omega), if_neg (by omega)]
                  have i1 : ((kn : Int) == 1) = false := by simp; omega
                  have i2 : ((kn : Int) == 2) = false := by simp; omega
                  have i3 : ((kn : Int) == 3) = false := by simp; omega
                  clear hN1 hNX hLn hRn hMn HRo14 n1
                  go_wp2_with fail
                  go_meet
                  exact ⟨by rw [HL3.out]; exact HD14, World.grownBy.refl _ _⟩
              case rest =>
                obtain ⟨HD, g15⟩ := hcut
                have HRo := HRo14.cell HD14 g15
                have HM := hMn.other HD14 g15
                have HB := HB14.grown g15 (by simpa using Ne.symm HND.out)
                have HY := HY14.other HD14 (by decide) g15
                have B := B14.grown g15 (by omega) (fun q hq => by cases hq; exact Nat.le_refl _)
                obtain ⟨r1, r2, r3, r4, r5, r6⟩ := HRo
                have kd : Below wc.heap.size wc wc.drew := (Below.refl _ _).drew
                have hDc : D ≤ wc.heap.size := Nat.le_of_lt HD.lt
                replace B := B.trans (kd.mono hDc)
                clear HRo14 hMn HB14 HY14 B14 HD14 g15 hDc hN1 HT14 k14
                replace HD := HD.kept kd
                replace HB := HB.kept kd
                replace HY := HY.kept kd
                replace HM := HM.kept kd
                replace r1 := r1.kept kd
                replace r2 := r2.kept kd
                replace r3 := r3.kept kd
                replace r4 := r4.kept kd
                replace r5 := r5.kept kd
                replace r6 := r6.kept kd
                clear kd
                generalize hX1 : lead3 kn X0 y = X1 at *
                clear hX1
                (try go_wp2_with fail)
                refine wp_region_noPanic ?_
                refine wp_region_T (fun w => Blk w D 29 (ldV X1 v1 v2 v3 v4 v5 v6)) (fun w => Blk w Y 29 (ldC y q)) (fun j => j == 16) (by kernel_rfl) (⟨HD, HB⟩) (fun hHeld => ?_)
                generalize wc.drew = w16 at *
                refine wpAnyT_takeT (i := 0) (v := ?_) rfl (by kernel_rfl) (by kernel_rfl) (by kernel_rfl) (by rfl) (fun _ _ _ h => h) (Or.inl ⟨by rfl, ?_⟩) (by assumption) ?_
                rotate_left
                · intro w hSw; clear hSw; go_simp; (try with_reducible rfl)
                (try simp only [Act.put, List.getElem_toArray, List.getElem_cons_zero, List.getElem_cons_succ, List.setIfInBounds_toArray, List.set_cons_zero, List.set_cons_succ])
                refine wpAnyT_takeT (i := 2) (v := ?_) rfl (by kernel_rfl) (by kernel_rfl) (by kernel_rfl) (by rfl) (fun _ _ _ h => h) (Or.inl ⟨by rfl, ?_⟩) (by assumption) ?_
                rotate_left
                · intro w hSw; clear hSw; go_simp; (try with_reducible rfl)
                (try simp only [Act.put, List.getElem_toArray, List.getElem_cons_zero, List.getElem_cons_succ, List.setIfInBounds_toArray, List.set_cons_zero, List.set_cons_succ])
                refine wpAnyT_takeT (i := 5) (v := ?_) rfl (by kernel_rfl) (by kernel_rfl) (by kernel_rfl) (by rfl) (fun _ _ _ h => h) (Or.inl ⟨by rfl, ?_⟩) (by assumption) ?_
                rotate_left
                · intro w hSw; clear hSw; go_simp; (try with_reducible rfl)
                (try simp only [Act.put, List.getElem_toArray, List.getElem_cons_zero, List.getElem_cons_succ, List.setIfInBounds_toArray, List.set_cons_zero, List.set_cons_succ])
                refine wpAnyT_takeT (i := 7) (v := ?_) rfl (by kernel_rfl) (by kernel_rfl) (by kernel_rfl) (by rfl) (fun _ _ _ h => h) (Or.inl ⟨by rfl, ?_⟩) (by assumption) ?_
                rotate_left
                · intro w hSw; clear hSw; go_simp; (try with_reducible rfl)
                (try simp only [Act.put, List.getElem_toArray, List.getElem_cons_zero, List.getElem_cons_succ, List.setIfInBounds_toArray, List.set_cons_zero, List.set_cons_succ])
                refine wpAnyT_takeT (i := 10) (v := ?_) rfl (by kernel_rfl) (by kernel_rfl) (by kernel_rfl) (by rfl) (fun _ _ _ h => h) (Or.inl ⟨by rfl, ?_⟩) (by assumption) ?_
                rotate_left
                · intro w hSw; clear hSw; go_simp; (try with_reducible rfl)
                (try simp only [Act.put, List.getElem_toArray, List.getElem_cons_zero, List.getElem_cons_succ, List.setIfInBounds_toArray, List.set_cons_zero, List.set_cons_succ])
                refine wpAnyT_takeT (i := 12) (v := ?_) rfl (by kernel_rfl) (by kernel_rfl) (by kernel_rfl) (by rfl) (fun _ _ _ h => h) (Or.inl ⟨by rfl, ?_⟩) (by assumption) ?_
                rotate_left
                · intro w hSw; clear hSw; go_simp; (try with_reducible rfl)
                (try simp only [Act.put, List.getElem_toArray, List.getElem_cons_zero, List.getElem_cons_succ, List.setIfInBounds_toArray, List.set_cons_zero, List.set_cons_succ])
                refine wpAnyT_take (i := 1) (v := v1) rfl (by kernel_rfl) (by kernel_rfl) (by kernel_rfl) (by rfl) (by kernel_rfl) (fun _ _ _ h => h) (Or.inl ⟨by rfl, fun w hSw => by (have c := hSw.cv 5 (v1) rfl; go_simp)⟩) (by assumption) ?_
                (try simp only [Act.put, List.getElem_toArray, List.getElem_cons_zero, List.getElem_cons_succ, List.setIfInBounds_toArray, List.set_cons_zero, List.set_cons_succ])
                refine wpAnyT_take (i := 6) (v := v2) rfl (by kernel_rfl) (by kernel_rfl) (by kernel_rfl) (by rfl) (by kernel_rfl) (fun _ _ _ h => h) (Or.inl ⟨by rfl, fun w hSw => by (have c := hSw.cv 6 (v2) rfl; go_simp)⟩) (by assumption) ?_
                (try simp only [Act.put, List.getElem_toArray, List.getElem_cons_zero, List.getElem_cons_succ, List.setIfInBounds_toArray, List.set_cons_zero, List.set_cons_succ])
                refine wpAnyT_take (i := 11) (v := v3) rfl (by kernel_rfl) (by kernel_rfl) (by kernel_rfl) (by rfl) (by kernel_rfl) (fun _ _ _ h => h) (Or.inl ⟨by rfl, fun w hSw => by (have c := hSw.cv 7 (v3) rfl; go_simp)⟩) (by assumption) ?_
                (try simp only [Act.put, List.getElem_toArray, List.getElem_cons_zero, List.getElem_cons_succ, List.setIfInBounds_toArray, List.set_cons_zero, List.set_cons_succ])
                refine wpAnyT_takeT (i := 3) (v := (.slice q.de.1 y.de.length q.de.2)) rfl (by kernel_rfl) (by kernel_rfl) (by kernel_rfl) (by rfl) (fun _ _ _ h => h) (Or.inl ⟨by rfl, fun w hSw => by (have c := hSw.cv 5 (.slice q.de.1 y.de.length q.de.2) rfl; go_simp)⟩) (by assumption) ?_
                (try simp only [Act.put, List.getElem_toArray, List.getElem_cons_zero, List.getElem_cons_succ, List.setIfInBounds_toArray, List.set_cons_zero, List.set_cons_succ])
                refine wpAnyT_takeT (i := 8) (v := (.slice q.ho.1 y.ho.length q.ho.2)) rfl (by kernel_rfl) (by kernel_rfl) (by kernel_rfl) (by rfl) (fun _ _ _ h => h) (Or.inl ⟨by rfl, fun w hSw => by (have c := hSw.cv 6 (.slice q.ho.1 y.ho.length q.ho.2) rfl; go_simp)⟩) (by assumption) ?_
                (try simp only [Act.put, List.getElem_toArray, List.getElem_cons_zero, List.getElem_cons_succ, List.setIfInBounds_toArray, List.set_cons_zero, List.set_cons_succ])
                refine wpAnyT_takeT (i := 13) (v := (.slice q.sy.1 y.sy.length q.sy.2)) rfl (by kernel_rfl) (by kernel_rfl) (by kernel_rfl) (by rfl) (fun _ _ _ h => h) (Or.inl ⟨by rfl, fun w hSw => by (have c := hSw.cv 7 (.slice q.sy.1 y.sy.length q.sy.2) rfl; go_simp)⟩) (by assumption) ?_
                (try simp only [Act.put, List.getElem_toArray, List.getElem_cons_zero, List.getElem_cons_succ, List.setIfInBounds_toArray, List.set_cons_zero, List.set_cons_succ])
                refine wpAnyT_one (r := 4) (by kernel_rfl) rfl (by rfl) (by rfl) (fun K hK => ?_)
                (try simp only [List.getElem_toArray, List.getElem_cons_zero, List.getElem_cons_succ])
                have hDW : D ≤ _ := Nat.le_of_lt HD.lt
                refine app_st rfl rfl rfl r1 (rows_inn HY.1 HY.2.1 HY.2.2.1 HY.2.2.2.1 HY.2.2.2.2.1 HY.2.2.2.2.2).1 Hdd.out (by omega) hDW (fun u1 w1 o1 bb => ?_)
                obtain ⟨a1, c1, rfl, -⟩ := o1.inL
                replace B := B.trans (bb.mono hDW)
                clear hDW r1
                replace HD := HD.kept bb
                replace HB := HB.kept bb
                replace HY := HY.kept bb
                replace HM := HM.kept bb
                replace r2 := r2.kept bb
                replace r3 := r3.kept bb
                replace r4 := r4.kept bb
                replace r5 := r5.kept bb
                replace r6 := r6.kept bb
                clear bb
                refine hK _ _ ?_ (fun hHeld => ?_)
                · exact ⟨HD, HB⟩
                clear hK K
                (try simp only [Act.put, List.getElem_toArray, List.getElem_cons_zero, List.getElem_cons_succ, List.setIfInBounds_toArray, List.set_cons_zero, List.set_cons_succ])
                refine wpAnyT_takeT (i := 15) (v := ?_) rfl (by kernel_rfl) (by kernel_rfl) (by kernel_rfl) (by rfl) (fun _ _ _ h => h) (Or.inl ⟨by rfl, ?_⟩) (by assumption) ?_
                rotate_left
                · intro w hSw; clear hSw; go_simp; (try with_reducible rfl)
                (try simp only [Act.put, List.getElem_toArray, List.getElem_cons_zero, List.getElem_cons_succ, List.setIfInBounds_toArray, List.set_cons_zero, List.set_cons_succ])
                refine wpAnyT_one (r := 9) (by kernel_rfl) rfl (by rfl) (by rfl) (fun K hK => ?_)
                (try simp only [List.getElem_toArray, List.getElem_cons_zero, List.getElem_cons_succ])
                have hDW : D ≤ _ := Nat.le_of_lt HD.lt
                refine app_st rfl rfl rfl r2 (rows_inn HY.1 HY.2.1 HY.2.2.1 HY.2.2.2.1 HY.2.2.2.2.1 HY.2.2.2.2.2).2.1 Hdh.out (by omega) hDW (fun u2 w2 o2 bb => ?_)
                obtain ⟨a2, c2, rfl, -⟩ := o2.inL
                replace B := B.trans (bb.mono hDW)
                clear hDW r2
                replace HD := HD.kept bb
                replace HB := HB.kept bb
                replace HY := HY.kept bb
                replace HM := HM.kept bb
                replace o1 := o1.kept bb
                replace r3 := r3.kept bb
                replace r4 := r4.kept bb
                replace r5 := r5.kept bb
                replace r6 := r6.kept bb
                clear bb
                refine hK _ _ ?_ (fun hHeld => ?_)
                · exact ⟨HD, HB⟩
                clear hK K
                (try simp only [Act.put, List.getElem_toArray, List.getElem_cons_zero, List.getElem_cons_succ, List.setIfInBounds_toArray, List.set_cons_zero, List.set_cons_succ])
                refine wpAnyT_one (r := 14) (by kernel_rfl) rfl (by rfl) (by rfl) (fun K hK => ?_)
                (try simp only [List.getElem_toArray, List.getElem_cons_zero, List.getElem_cons_succ])
                have hDW : D ≤ _ := Nat.le_of_lt HD.lt
                refine app_st rfl rfl rfl r3 (rows_inn HY.1 HY.2.1 HY.2.2.1 HY.2.2.2.1 HY.2.2.2.2.1 HY.2.2.2.2.2).2.2.1 Hds.out (by omega) hDW (fun u3 w3 o3 bb => ?_)
                obtain ⟨a3, c3, rfl, -⟩ := o3.inL
                replace B := B.trans (bb.mono hDW)
                clear hDW r3
                replace HD := HD.kept bb
                replace HB := HB.kept bb
                replace HY := HY.kept bb
                replace HM := HM.kept bb
                replace o1 := o1.kept bb
                replace o2 := o2.kept bb
                replace r4 := r4.kept bb
                replace r5 := r5.kept bb
                replace r6 := r6.kept bb
                clear bb
                refine hK _ _ ?_ (fun hHeld => ?_)
                · exact ⟨HD, HB⟩
                clear hK K
                (try simp only [Act.put, List.getElem_toArray, List.getElem_cons_zero, List.getElem_cons_succ, List.setIfInBounds_toArray, List.set_cons_zero, List.set_cons_succ])
                refine wpAnyT_last (r := 16) (by kernel_rfl) rfl (by rfl) (by rfl) (fun K hK => ?_)
                (try simp only [List.getElem_toArray, List.getElem_cons_zero, List.getElem_cons_succ])
                refine wp_store_op (k := 5) 24 (.slice a1 (X0.de ++ y.de).length c1) (ldV X1 (.slice a1 (X0.de ++ y.de).length c1) v2 v3 v4 v5 v6) (by rfl) rfl rfl HD (by kernel_rfl) (show (5 + 1 : Nat) ≤ 11 by decide) (by rfl) rfl (fun wz HDz bz gz => ?_)
                replace o1 := o1.other HD (by decide) gz
                replace o2 := o2.other HD (by decide) gz
                replace o3 := o3.other HD (by decide) gz
                replace r4 := r4.other HD (by decide) gz
                replace r5 := r5.other HD (by decide) gz
                replace r6 := r6.other HD (by decide) gz
                replace HY := HY.other HD (by decide) gz
                replace HM := HM.other HD gz
                replace HB := HB.grown gz (by simpa using Ne.symm HND.out)
                replace B := B.trans (bz.mono (Nat.le_refl _))
                replace HD := HDz
                clear bz gz HDz
                refine hK _ _ ?_ (fun hHeld => ?_)
                · exact HB
                clear hK K
                (try simp only [Act.put, List.getElem_toArray, List.getElem_cons_zero, List.getElem_cons_succ, List.setIfInBounds_toArray, List.set_cons_zero, List.set_cons_succ])
                refine wpAnyH_take (i := 17) (v := ?_) rfl (by kernel_rfl) (by kernel_rfl) (by kernel_rfl) (fun _ _ _ h => h) (Or.inl ⟨by rfl, ?_⟩) (by assumption) ?_
                rotate_left
                · (intro w hSw; clear hSw; go_simp; (try with_reducible rfl))
                (try simp only [Act.put, List.getElem_toArray, List.getElem_cons_zero, List.getElem_cons_succ, List.setIfInBounds_toArray, List.set_cons_zero, List.set_cons_succ])
                refine wpAnyH_ready (rs := [18]) (by kernel_rfl) (by simp) ?_
                refine AllReadyH.cons rfl (fun K hK => ?_) AllReadyH.nil
                simp only [List.getElem_toArray, List.getElem_cons_zero, List.getElem_cons_succ]
                rw [if_pos (by rfl)]
                refine wp_store_op (k := 6) 24 (.slice a2 (X0.ho ++ y.ho).length c2) (ldV X1 (.slice a1 (X0.de ++ y.de).length c1) (.slice a2 (X0.ho ++ y.ho).length c2) v3 v4 v5 v6) (by rfl) rfl rfl HD (by kernel_rfl) (show (6 + 1 : Nat) ≤ 11 by decide) (by rfl) rfl (fun wz HDz bz gz => ?_)
                replace o1 := o1.other HD (by decide) gz
                replace o2 := o2.other HD (by decide) gz
                replace o3 := o3.other HD (by decide) gz
                replace r4 := r4.other HD (by decide) gz
                replace r5 := r5.other HD (by decide) gz
                replace r6 := r6.other HD (by decide) gz
                replace HY := HY.other HD (by decide) gz
                replace HM := HM.other HD gz
                replace HB := HB.grown gz (by simpa using Ne.symm HND.out)
                replace B := B.trans (bz.mono (Nat.le_refl _))
                replace HD := HDz
                clear bz gz HDz
                refine hK.out _ _ ?_ (fun hHeld => ?_)
                · exact HB
                clear hK K
                (try simp only [Act.put, List.getElem_toArray, List.getElem_cons_zero, List.getElem_cons_succ, List.setIfInBounds_toArray, List.set_cons_zero, List.set_cons_succ])
                refine wpAnyH_take (i := 19) (v := ?_) rfl (by kernel_rfl) (by kernel_rfl) (by kernel_rfl) (fun _ _ _ h => h) (Or.inl ⟨by rfl, ?_⟩) (by assumption) ?_
                rotate_left
                · (intro w hSw; clear hSw; go_simp; (try with_reducible rfl))
                (try simp only [Act.put, List.getElem_toArray, List.getElem_cons_zero, List.getElem_cons_succ, List.setIfInBounds_toArray, List.set_cons_zero, List.set_cons_succ])
                refine wpAnyH_ready (rs := [20]) (by kernel_rfl) (by simp) ?_
                refine AllReadyH.cons rfl (fun K hK => ?_) AllReadyH.nil
                simp only [List.getElem_toArray, List.getElem_cons_zero, List.getElem_cons_succ]
                rw [if_pos (by rfl)]
                refine wp_store_op (k := 7) 24 (.slice a3 (X0.sy ++ y.sy).length c3) (ldV X1 (.slice a1 (X0.de ++ y.de).length c1) (.slice a2 (X0.ho ++ y.ho).length c2) (.slice a3 (X0.sy ++ y.sy).length c3) v4 v5 v6) (by rfl) rfl rfl HD (by kernel_rfl) (show (7 + 1 : Nat) ≤ 11 by decide) (by rfl) rfl (fun wz HDz bz gz => ?_)
                replace o1 := o1.other HD (by decide) gz
                replace o2 := o2.other HD (by decide) gz
                replace o3 := o3.other HD (by decide) gz
                replace r4 := r4.other HD (by decide) gz
                replace r5 := r5.other HD (by decide) gz
                replace r6 := r6.other HD (by decide) gz
                replace HY := HY.other HD (by decide) gz
                replace HM := HM.other HD gz
                replace HB := HB.grown gz (by simpa using Ne.symm HND.out)
                replace B := B.trans (bz.mono (Nat.le_refl _))
                replace HD := HDz
                clear bz gz HDz
                refine hK.out _ _ ?_ (fun hHeld => ?_)
                · exact HB
                clear hK K
                (try simp only [Act.put, List.getElem_toArray, List.getElem_cons_zero, List.getElem_cons_succ, List.setIfInBounds_toArray, List.set_cons_zero, List.set_cons_succ])
                refine wpAnyH_done (by kernel_rfl) ?_ _
                refine NoPanic.normal ?_
                (try go_wp2_with fail)
                have kd : Below wz.heap.size wz wz.drew := (Below.refl _ _).drew
                have hDc : D ≤ wz.heap.size := Nat.le_of_lt HD.lt
                replace B := B.trans (kd.mono hDc)
                replace HD := HD.kept kd
                replace HB := HB.kept kd
                replace HY := HY.kept kd
                replace HM := HM.kept kd
                replace o1 := o1.kept kd
                replace o2 := o2.kept kd
                replace o3 := o3.kept kd
                replace r4 := r4.kept kd
                replace r5 := r5.kept kd
                replace r6 := r6.kept kd
                clear kd hDc
                refine wp_region_noPanic ?_
                refine wp_region_T (fun w => Blk w D 29 (ldV X1 (.slice a1 (X0.de ++ y.de).length c1) (.slice a2 (X0.ho ++ y.ho).length c2) (.slice a3 (X0.sy ++ y.sy).length c3) v4 v5 v6)) (fun w => Blk w Y 29 (ldC y q)) (fun j => j == 16) (by kernel_rfl) (⟨HD, HB⟩) (fun hHeld => ?_)
                generalize wz.drew = w20 at *
                refine wpAnyT_takeT (i := 0) (v := ?_) rfl (by kernel_rfl) (by kernel_rfl) (by kernel_rfl) (by rfl) (fun _ _ _ h => h) (Or.inl ⟨by rfl, ?_⟩) (by assumption) ?_
                rotate_left
                · intro w hSw; clear hSw; go_simp; (try with_reducible rfl)
                (try simp only [Act.put, List.getElem_toArray, List.getElem_cons_zero, List.getElem_cons_succ, List.setIfInBounds_toArray, List.set_cons_zero, List.set_cons_succ])
                refine wpAnyT_takeT (i := 2) (v := ?_) rfl (by kernel_rfl) (by kernel_rfl) (by kernel_rfl) (by rfl) (fun _ _ _ h => h) (Or.inl ⟨by rfl, ?_⟩) (by assumption) ?_
                rotate_left
                · intro w hSw; clear hSw; go_simp; (try with_reducible rfl)
                (try simp only [Act.put, List.getElem_toArray, List.getElem_cons_zero, List.getElem_cons_succ, List.setIfInBounds_toArray, List.set_cons_zero, List.set_cons_succ])
                refine wpAnyT_takeT (i := 5) (v := ?_) rfl (by kernel_rfl) (by kernel_rfl) (by kernel_rfl) (by rfl) (fun _ _ _ h => h) (Or.inl ⟨by rfl, ?_⟩) (by assumption) ?_
                rotate_left
                · intro w hSw; clear hSw; go_simp; (try with_reducible rfl)
                (try simp only [Act.put, List.getElem_toArray, List.getElem_cons_zero, List.getElem_cons_succ, List.setIfInBounds_toArray, List.set_cons_zero, List.set_cons_succ])
                refine wpAnyT_takeT (i := 7) (v := ?_) rfl (by kernel_rfl) (by kernel_rfl) (by kernel_rfl) (by rfl) (fun _ _ _ h => h) (Or.inl ⟨by rfl, ?_⟩) (by assumption) ?_
                rotate_left
                · intro w hSw; clear hSw; go_simp; (try with_reducible rfl)
                (try simp only [Act.put, List.getElem_toArray, List.getElem_cons_zero, List.getElem_cons_succ, List.setIfInBounds_toArray, List.set_cons_zero, List.set_cons_succ])
                refine wpAnyT_takeT (i := 10) (v := ?_) rfl (by kernel_rfl) (by kernel_rfl) (by kernel_rfl) (by rfl) (fun _ _ _ h => h) (Or.inl ⟨by rfl, ?_⟩) (by assumption) ?_
                rotate_left
                · intro w hSw; clear hSw; go_simp; (try with_reducible rfl)
                (try simp only [Act.put, List.getElem_toArray, List.getElem_cons_zero, List.getElem_cons_succ, List.setIfInBounds_toArray, List.set_cons_zero, List.set_cons_succ])
                refine wpAnyT_takeT (i := 12) (v := ?_) rfl (by kernel_rfl) (by kernel_rfl) (by kernel_rfl) (by rfl) (fun _ _ _ h => h) (Or.inl ⟨by rfl, ?_⟩) (by assumption) ?_
                rotate_left
                · intro w hSw; clear hSw; go_simp; (try with_reducible rfl)
                (try simp only [Act.put, List.getElem_toArray, List.getElem_cons_zero, List.getElem_cons_succ, List.setIfInBounds_toArray, List.set_cons_zero, List.set_cons_succ])
                refine wpAnyT_take (i := 1) (v := v4) rfl (by kernel_rfl) (by kernel_rfl) (by kernel_rfl) (by rfl) (by kernel_rfl) (fun _ _ _ h => h) (Or.inl ⟨by rfl, fun w hSw => by (have c := hSw.cv 8 (v4) rfl; go_simp)⟩) (by assumption) ?_
                (try simp only [Act.put, List.getElem_toArray, List.getElem_cons_zero, List.getElem_cons_succ, List.setIfInBounds_toArray, List.set_cons_zero, List.set_cons_succ])
                refine wpAnyT_take (i := 6) (v := v5) rfl (by kernel_rfl) (by kernel_rfl) (by kernel_rfl) (by rfl) (by kernel_rfl) (fun _ _ _ h => h) (Or.inl ⟨by rfl, fun w hSw => by (have c := hSw.cv 9 (v5) rfl; go_simp)⟩) (by assumption) ?_
                (try simp only [Act.put, List.getElem_toArray, List.getElem_cons_zero, List.getElem_cons_succ, List.setIfInBounds_toArray, List.set_cons_zero, List.set_cons_succ])
                refine wpAnyT_take (i := 11) (v := v6) rfl (by kernel_rfl) (by kernel_rfl) (by kernel_rfl) (by rfl) (by kernel_rfl) (fun _ _ _ h => h) (Or.inl ⟨by rfl, fun w hSw => by (have c := hSw.cv 10 (v6) rfl; go_simp)⟩) (by assumption) ?_
                (try simp only [Act.put, List.getElem_toArray, List.getElem_cons_zero, List.getElem_cons_succ, List.setIfInBounds_toArray, List.set_cons_zero, List.set_cons_succ])
                refine wpAnyT_takeT (i := 3) (v := (.slice q.ca.1 y.ca.length q.ca.2)) rfl (by kernel_rfl) (by kernel_rfl) (by kernel_rfl) (by rfl) (fun _ _ _ h => h) (Or.inl ⟨by rfl, fun w hSw => by (have c := hSw.cv 8 (.slice q.ca.1 y.ca.length q.ca.2) rfl; go_simp)⟩) (by assumption) ?_
                (try simp only [Act.put, List.getElem_toArray, List.getElem_cons_zero, List.getElem_cons_succ, List.setIfInBounds_toArray, List.set_cons_zero, List.set_cons_succ])
                refine wpAnyT_takeT (i := 8) (v := (.slice q.ma.1 y.ma.length q.ma.2)) rfl (by kernel_rfl) (by kernel_rfl) (by kernel_rfl) (by rfl) (fun _ _ _ h => h) (Or.inl ⟨by rfl, fun w hSw => by (have c := hSw.cv 9 (.slice q.ma.1 y.ma.length q.ma.2) rfl; go_simp)⟩) (by assumption) ?_
                (try simp only [Act.put, List.getElem_toArray, List.getElem_cons_zero, List.getElem_cons_succ, List.setIfInBounds_toArray, List.set_cons_zero, List.set_cons_succ])
                refine wpAnyT_takeT (i := 13) (v := (.slice q.og.1 y.og.length q.og.2)) rfl (by kernel_rfl) (by kernel_rfl) (by kernel_rfl) (by rfl) (fun _ _ _ h => h) (Or.inl ⟨by rfl, fun w hSw => by (have c := hSw.cv 10 (.slice q.og.1 y.og.length q.og.2) rfl; go_simp)⟩) (by assumption) ?_
                (try simp only [Act.put, List.getElem_toArray, List.getElem_cons_zero, List.getElem_cons_succ, List.setIfInBounds_toArray, List.set_cons_zero, List.set_cons_succ])
                refine wpAnyT_one (r := 4) (by kernel_rfl) rfl (by rfl) (by rfl) (fun K hK => ?_)
                (try simp only [List.getElem_toArray, List.getElem_cons_zero, List.getElem_cons_succ])
                have hDW : D ≤ _ := Nat.le_of_lt HD.lt
                refine app_cp rfl rfl rfl r4 (rows_inn HY.1 HY.2.1 HY.2.2.1 HY.2.2.2.1 HY.2.2.2.2.1 HY.2.2.2.2.2).2.2.2.1 Hdc.out (by omega) hDW (fun u4 w4 o4 bb => ?_)
                obtain ⟨a4, c4, rfl, -⟩ := o4.inL
                replace B := B.trans (bb.mono hDW)
                clear hDW r4
                replace HD := HD.kept bb
                replace HB := HB.kept bb
                replace HY := HY.kept bb
                replace HM := HM.kept bb
                replace o1 := o1.kept bb
                replace o2 := o2.kept bb
                replace o3 := o3.kept bb
                replace r5 := r5.kept bb
                replace r6 := r6.kept bb
                clear bb
                obtain ⟨HY1, HY2, HY3, HY4, HY5, HY6⟩ := HY
                refine hK _ _ ?_ (fun hHeld => ?_)
                · exact ⟨HD, HB⟩
                clear hK K
                (try simp only [Act.put, List.getElem_toArray, List.getElem_cons_zero, List.getElem_cons_succ, List.setIfInBounds_toArray, List.set_cons_zero, List.set_cons_succ])
                refine wpAnyT_takeT (i := 15) (v := ?_) rfl (by kernel_rfl) (by kernel_rfl) (by kernel_rfl) (by rfl) (fun _ _ _ h => h) (Or.inl ⟨by rfl, ?_⟩) (by assumption) ?_
                rotate_left
                · intro w hSw; clear hSw; go_simp; (try with_reducible rfl)
                (try simp only [Act.put, List.getElem_toArray, List.getElem_cons_zero, List.getElem_cons_succ, List.setIfInBounds_toArray, List.set_cons_zero, List.set_cons_succ])
                refine wpAnyT_one (r := 9) (by kernel_rfl) rfl (by rfl) (by rfl) (fun K hK => ?_)
                (try simp only [List.getElem_toArray, List.getElem_cons_zero, List.getElem_cons_succ])
                have hDW : D ≤ _ := Nat.le_of_lt HD.lt
                obtain ⟨aq, cq, eq, iq⟩ := HY5.inL
                cases eq
                refine app_mg rfl rfl rfl r5 iq (by omega) hDW (fun u5 w5 o5 bb KK KS _ => ?_)
                obtain ⟨a5, c5, rfl, -⟩ := o5.inL
                replace B := B.trans bb
                clear hDW r5 bb iq HY5
                replace HD := KK _ _ _ HD (by decide)
                replace HB := KK _ _ _ HB (by decide)
                replace HM := KS _ _ HM
                replace o1 := o1.stay (fun X C hX => KK X _ C hX (by decide))
                replace o2 := o2.stay (fun X C hX => KK X _ C hX (by decide))
                replace o3 := o3.stay (fun X C hX => KK X _ C hX (by decide))
                replace o4 := o4.stay (fun X C hX => KK X _ C hX (by decide))
                replace r6 := r6.stay (fun X C hX => KK X _ C hX (by decide))
                replace HY6 := HY6.stay (fun X C hX => KK X _ C hX (by decide))
                clear KK KS
                refine hK _ _ ?_ (fun hHeld => ?_)
                · exact ⟨HD, HB⟩
                clear hK K
                (try simp only [Act.put, List.getElem_toArray, List.getElem_cons_zero, List.getElem_cons_succ, List.setIfInBounds_toArray, List.set_cons_zero, List.set_cons_succ])
                refine wpAnyT_one (r := 14) (by kernel_rfl) rfl (by rfl) (by rfl) (fun K hK => ?_)
                (try simp only [List.getElem_toArray, List.getElem_cons_zero, List.getElem_cons_succ])
                have hDW : D ≤ _ := Nat.le_of_lt HD.lt
                obtain ⟨aq, cq, eq, iq⟩ := HY6.inL
                cases eq
                refine app_og rfl rfl rfl r6 iq (by omega) hDW (fun u6 w6 o6 bb KK KS _ => ?_)
                obtain ⟨a6, c6, rfl, -⟩ := o6.inL
                replace B := B.trans bb
                clear hDW r6 bb iq HY6
                replace HD := KK _ _ _ HD (by decide)
                replace HB := KK _ _ _ HB (by decide)
                replace HM := KS _ _ HM
                replace o1 := o1.stay (fun X C hX => KK X _ C hX (by decide))
                replace o2 := o2.stay (fun X C hX => KK X _ C hX (by decide))
                replace o3 := o3.stay (fun X C hX => KK X _ C hX (by decide))
                replace o4 := o4.stay (fun X C hX => KK X _ C hX (by decide))
                replace o5 := o5.stay (fun X C hX => KK X _ C hX (by decide))
                clear KK KS
                refine hK _ _ ?_ (fun hHeld => ?_)
                · exact ⟨HD, HB⟩
                clear hK K
                (try simp only [Act.put, List.getElem_toArray, List.getElem_cons_zero, List.getElem_cons_succ, List.setIfInBounds_toArray, List.set_cons_zero, List.set_cons_succ])
                refine wpAnyT_last (r := 16) (by kernel_rfl) rfl (by rfl) (by rfl) (fun K hK => ?_)
                (try simp only [List.getElem_toArray, List.getElem_cons_zero, List.getElem_cons_succ])
                refine wp_store_op (k := 8) 25 (.slice a4 (X0.ca ++ y.ca).length c4) (ldV X1 (.slice a1 (X0.de ++ y.de).length c1) (.slice a2 (X0.ho ++ y.ho).length c2) (.slice a3 (X0.sy ++ y.sy).length c3) (.slice a4 (X0.ca ++ y.ca).length c4) v5 v6) (by rfl) rfl rfl HD (by kernel_rfl) (show (8 + 1 : Nat) ≤ 11 by decide) (by rfl) rfl (fun wz HDz bz gz => ?_)
                replace o1 := o1.other HD (by decide) gz
                replace o2 := o2.other HD (by decide) gz
                replace o3 := o3.other HD (by decide) gz
                replace o4 := o4.other HD (by decide) gz
                replace o5 := o5.other HD (by decide) gz
                replace o6 := o6.other HD (by decide) gz
                replace HM := HM.other HD gz
                replace HB := HB.grown gz (by simpa using Ne.symm HND.out)
                replace B := B.trans (bz.mono (Nat.le_refl _))
                replace HD := HDz
                clear bz gz HDz
                refine hK _ _ ?_ (fun hHeld => ?_)
                · exact HB
                clear hK K
                (try simp only [Act.put, List.getElem_toArray, List.getElem_cons_zero, List.getElem_cons_succ, List.setIfInBounds_toArray, List.set_cons_zero, List.set_cons_succ])
                refine wpAnyH_take (i := 17) (v := ?_) rfl (by kernel_rfl) (by kernel_rfl) (by kernel_rfl) (fun _ _ _ h => h) (Or.inl ⟨by rfl, ?_⟩) (by assumption) ?_
                rotate_left
                · (intro w hSw; clear hSw; go_simp; (try with_reducible rfl))
                (try simp only [Act.put, List.getElem_toArray, List.getElem_cons_zero, List.getElem_cons_succ, List.setIfInBounds_toArray, List.set_cons_zero, List.set_cons_succ])
                refine wpAnyH_ready (rs := [18]) (by kernel_rfl) (by simp) ?_
                refine AllReadyH.cons rfl (fun K hK => ?_) AllReadyH.nil
                simp only [List.getElem_toArray, List.getElem_cons_zero, List.getElem_cons_succ]
                rw [if_pos (by rfl)]
                refine wp_store_op (k := 9) 26 (.slice a5 (X0.ma ++ y.ma).length c5) (ldV X1 (.slice a1 (X0.de ++ y.de).length c1) (.slice a2 (X0.ho ++ y.ho).length c2) (.slice a3 (X0.sy ++ y.sy).length c3) (.slice a4 (X0.ca ++ y.ca).length c4) (.slice a5 (X0.ma ++ y.ma).length c5) v6) (by rfl) rfl rfl HD (by kernel_rfl) (show (9 + 1 : Nat) ≤ 11 by decide) (by rfl) rfl (fun wz HDz bz gz => ?_)
                replace o1 := o1.other HD (by decide) gz
                replace o2 := o2.other HD (by decide) gz
                replace o3 := o3.other HD (by decide) gz
                replace o4 := o4.other HD (by decide) gz
                replace o5 := o5.other HD (by decide) gz
                replace o6 := o6.other HD (by decide) gz
                replace HM := HM.other HD gz
                replace HB := HB.grown gz (by simpa using Ne.symm HND.out)
                replace B := B.trans (bz.mono (Nat.le_refl _))
                replace HD := HDz
                clear bz gz HDz
                refine hK.out _ _ ?_ (fun hHeld => ?_)
                · exact HB
                clear hK K
                (try simp only [Act.put, List.getElem_toArray, List.getElem_cons_zero, List.getElem_cons_succ, List.setIfInBounds_toArray, List.set_cons_zero, List.set_cons_succ])
                refine wpAnyH_take (i := 19) (v := ?_) rfl (by kernel_rfl) (by kernel_rfl) (by kernel_rfl) (fun _ _ _ h => h) (Or.inl ⟨by rfl, ?_⟩) (by assumption) ?_
                rotate_left
                · (intro w hSw; clear hSw; go_simp; (try with_reducible rfl))
                (try simp only [Act.put, List.getElem_toArray, List.getElem_cons_zero, List.getElem_cons_succ, List.setIfInBounds_toArray, List.set_cons_zero, List.set_cons_succ])
                refine wpAnyH_ready (rs := [20]) (by kernel_rfl) (by simp) ?_
                refine AllReadyH.cons rfl (fun K hK => ?_) AllReadyH.nil
                simp only [List.getElem_toArray, List.getElem_cons_zero, List.getElem_cons_succ]
                rw [if_pos (by rfl)]
                refine wp_store_op (k := 10) 27 (.slice a6 (X0.og ++ y.og).length c6) (ldV X1 (.slice a1 (X0.de ++ y.de).length c1) (.slice a2 (X0.ho ++ y.ho).length c2) (.slice a3 (X0.sy ++ y.sy).length c3) (.slice a4 (X0.ca ++ y.ca).length c4) (.slice a5 (X0.ma ++ y.ma).length c5) (.slice a6 (X0.og ++ y.og).length c6)) (by rfl) rfl rfl HD (by kernel_rfl) (show (10 + 1 : Nat) ≤ 11 by decide) (by rfl) rfl (fun wz HDz bz gz => ?_)
                replace o1 := o1.other HD (by decide) gz
                replace o2 := o2.other HD (by decide) gz
                replace o3 := o3.other HD (by decide) gz
                replace o4 := o4.other HD (by decide) gz
                replace o5 := o5.other HD (by decide) gz
                replace o6 := o6.other HD (by decide) gz
                replace HM := HM.other HD gz
                replace HB := HB.grown gz (by simpa using Ne.symm HND.out)
                replace B := B.trans (bz.mono (Nat.le_refl _))
                replace HD := HDz
                clear bz gz HDz
                refine hK.out _ _ ?_ (fun hHeld => ?_)
                · exact HB
                clear hK K
                (try simp only [Act.put, List.getElem_toArray, List.getElem_cons_zero, List.getElem_cons_succ, List.setIfInBounds_toArray, List.set_cons_zero, List.set_cons_succ])
                refine wpAnyH_done (by kernel_rfl) ?_ _
                refine NoPanic.normal ?_
                go_wp2_with fail
                go_roundw
                case rel => exact ⟨k + 1, by omega, by go_num, by rw [hNX.out]; exact LdAc.ofVals HD ⟨o1, o2, o3, o4, o5, o6⟩ rfl rfl rfl, HM, B, hLn, hRn⟩
                case measure => simp [intOf]; omega
            · have dV : (V != 0) = true := by simpa using hV0
              have hv2 : Hid (RR = .bad V ak) := Lib.hid (hRk.out.trans (HBD.out hV0))
              have hb2R := hbl2R.out _ _ rfl
              have hb2D := hbl2D.out _ _ rfl
              have HCd : w14.drew.cell? ⟨b2, lo2 + k, none⟩ = some (.int .i64 ((ak : Nat) : Int)) := HKS.out w14 B14
              have HRd := (HR5.below B14 (by omega)).drew
              have HEd := (HE5.below B14 hRD).drew
              have Ed : Below w.heap.size w w14.drew := (E5.trans (B14.mono (by omega))).drew
              have hbs : b2 < w14.drew.heap.size := by show b2 < w14.heap.size; omega
              have hER : ¬ w.heap.size = w.heap.size + 1 := by omega
              clear HT14 HB14 HA14 HY14 HM14 HPV z4 z5 z6 z7 z8 z9 HSV HSN HST HBD HKS hRk hLk HRk HLk HCC hV hV0 hE14 HR5 HE5 E5
              go_wp2_with fail
              refine wp_region_noPanic ?_
              refine wp_region_held_drew (S := (fun w' => w'.cell? ⟨b2, lo2 + k, none⟩ = some (.int .i64 ((ak : Nat) : Int)))) (by kernel_rfl) ?_ (fun hHeld => ?_)
              · exact HCd
              refine wpAnyH_take (i := 0) (v := .agg (ldC zLd zLdA)) rfl (by kernel_rfl) (by kernel_rfl) (by kernel_rfl) (fun _ _ _ h => h) (Or.inl ⟨by rfl, fun w hSw => exec_build_blkL (t := 29) (ldC zLd zLdA) rfl (by kernel_rfl)⟩) (by assumption) ?_
              (try simp only [Act.put, List.getElem_toArray, List.getElem_cons_zero, List.getElem_cons_succ, List.setIfInBounds_toArray, List.set_cons_zero, List.set_cons_succ])
              refine wpAnyH_take (i := 1) (v := ?_) rfl (by kernel_rfl) (by kernel_rfl) (by kernel_rfl) (fun _ _ _ h => h) (Or.inl ⟨by rfl, ?_⟩) (by assumption) ?_
              rotate_left
              · (intro w hSw; (try dsimp only at hSw); go_simp; (try with_reducible rfl))
              (try simp only [Act.put, List.getElem_toArray, List.getElem_cons_zero, List.getElem_cons_succ, List.setIfInBounds_toArray, List.set_cons_zero, List.set_cons_succ])
              refine wpAnyH_take (i := 2) (v := ?_) rfl (by kernel_rfl) (by kernel_rfl) (by kernel_rfl) (fun _ _ _ h => h) (Or.inl ⟨by rfl, ?_⟩) (by assumption) ?_
              rotate_left
              · (intro w hSw; (try dsimp only at hSw); go_simp; (try with_reducible rfl))
              (try simp only [Act.put, List.getElem_toArray, List.getElem_cons_zero, List.getElem_cons_succ, List.setIfInBounds_toArray, List.set_cons_zero, List.set_cons_succ])
              refine wpAnyH_take (i := 3) (v := ?_) rfl (by kernel_rfl) (by kernel_rfl) (by kernel_rfl) (fun _ _ _ h => h) (Or.inl ⟨by rfl, ?_⟩) (by assumption) ?_
              rotate_left
              · (intro w hSw; (try dsimp only at hSw); go_simp; (try with_reducible rfl))
              (try simp only [Act.put, List.getElem_toArray, List.getElem_cons_zero, List.getElem_cons_succ, List.setIfInBounds_toArray, List.set_cons_zero, List.set_cons_succ])
              refine wpAnyH_take (i := 4) (v := ?_) rfl (by kernel_rfl) (by kernel_rfl) (by kernel_rfl) (fun _ _ _ h => h) (Or.inl ⟨by rfl, ?_⟩) (by assumption) ?_
              rotate_left
              · (intro w hSw; (try dsimp only at hSw); go_simp; (try with_reducible rfl))
              (try simp only [Act.put, List.getElem_toArray, List.getElem_cons_zero, List.getElem_cons_succ, List.setIfInBounds_toArray, List.set_cons_zero, List.set_cons_succ])
              refine wpAnyH_take (i := 5) (v := .int .i64 ((ak : Nat) : Int)) rfl (by kernel_rfl) (by kernel_rfl) (by kernel_rfl) (fun _ _ _ h => h) (Or.inl ⟨by rfl, fun w hSw => by (have c : w.cell? ⟨b2, lo2 + k, none⟩ = some (.int .i64 ((ak : Nat) : Int)) := hSw; clear hSw; go_simp)⟩) (by assumption) ?_
              (try simp only [Act.put, List.getElem_toArray, List.getElem_cons_zero, List.getElem_cons_succ, List.setIfInBounds_toArray, List.set_cons_zero, List.set_cons_succ])
              refine wpAnyH_take (i := 6) (v := .agg (ftC V (ak : Int))) rfl (by kernel_rfl) (by kernel_rfl) (by kernel_rfl) (fun _ _ _ h => h) (Or.inl ⟨by rfl, fun w hSw => exec_build_blkL (t := 32) (ftC V (ak : Int)) rfl (by kernel_rfl)⟩) (by assumption) ?_
              (try simp only [Act.put, List.getElem_toArray, List.getElem_cons_zero, List.getElem_cons_succ, List.setIfInBounds_toArray, List.set_cons_zero, List.set_cons_succ])
              refine wpAnyH_ready (rs := [7]) (by kernel_rfl) (by simp) ?_
              refine AllReadyH.cons rfl (fun K hK => ?_) AllReadyH.nil
              simp only [List.getElem_toArray, List.getElem_cons_zero, List.getElem_cons_succ]
              rw [if_pos (by rfl)]
              refine wp_store_op (k := 0) 29 (.agg (ldC zLd zLdA)) (ldC zLd zLdA) (by rfl) rfl rfl HRd (by kernel_rfl) (show (11 : Nat) ≤ 11 from Nat.le_refl 11) (by rfl) (st_whole _ _ rfl) (fun w6 HR6 b6 g6 => ?_)
              have HC6 := cell_grown HCd g6 (by omega) hbs
              have hb6 : b2 < w6.heap.size := by have := b6.size; omega
              have HE6 := HEd.grown g6 (by simp)
              have E6 := Ed.trans b6
              refine hK.out _ _ ?_ (fun hHeld => ?_)
              · exact HC6
              clear hK K
              (try simp only [Act.put, List.getElem_toArray, List.getElem_cons_zero, List.getElem_cons_succ, List.setIfInBounds_toArray, List.set_cons_zero, List.set_cons_succ])
              refine wpAnyH_ready (rs := [8]) (by kernel_rfl) (by simp) ?_
              refine AllReadyH.cons rfl (fun K hK => ?_) AllReadyH.nil
              simp only [List.getElem_toArray, List.getElem_cons_zero, List.getElem_cons_succ]
              rw [if_pos (by rfl)]
              refine wp_store_op (k := 0) 32 (.agg (ftC V (ak : Int))) (ftC V (ak : Int)) (by rfl) rfl rfl HE6 (by kernel_rfl) (show (2 : Nat) ≤ 2 from Nat.le_refl 2) (by rfl) (st_whole _ _ rfl) (fun w7 HE7 b7 g7 => ?_)
              have HC7 := cell_grown HC6 g7 (by omega) hb6
              have HR7 := HR6.grown g7 (by simp)
              have E7 := E6.trans (b7.mono (Nat.le_succ _))
              refine hK.out _ _ ?_ (fun hHeld => ?_)
              · exact HC7
              clear hK K
              (try simp only [Act.put, List.getElem_toArray, List.getElem_cons_zero, List.getElem_cons_succ, List.setIfInBounds_toArray, List.set_cons_zero, List.set_cons_succ])
              refine wpAnyH_done (by kernel_rfl) ?_ _
              refine NoPanic.normal ?_
              go_wp2_with fail
              refine bodyPost_ret (results_blk2 rfl rfl rfl HR7 HE7 (by kernel_rfl) (by kernel_rfl) (by kernel_rfl) (by kernel_rfl)) rfl ?_
              rw [hv2.out]
              exact ⟨zLdA, rfl, zLd_in _, E7⟩
      · obtain rfl : k = l.length := by omega
        have hA := ldAtK_end e l a
        have q2 : decide ((l.length : Int) < (l.length : Int)) = false := decide_eq_false (by omega)
        have q4 : decide (l.length < l.length) = false := decide_eq_false (by omega)
        have HR9 := HR5.below Bk (by omega)
        have HE9 := HE5.below Bk hRD
        have E9 := E5.trans (Bk.mono (by omega))
        have hER : ¬ w.heap.size = w.heap.size + 1 := by omega
        rw [List.take_length] at HAk
        by_cases h3 : l.length < 3
        · have hv2 : Hid (RR = .bad 7 e) := Lib.hid (hRk.out.trans (by rw [hA, if_pos h3]))
          have u1 : decide ((l.length : Int) < 3) = true := decide_eq_true (by omega)
          have u2 : decide (l.length < 3) = true := decide_eq_true h3
          clear HAk HMk hA hRk hLk HR5 HE5 E5 h3
          go_wp2_with (first
            | (refine build_blk (t := 29) (ldC zLd zLdA) (by rfl) rfl (by kernel_rfl) ?_)
            | (refine build_blk (t := 32) (ftC 7 (e : Int)) (by rfl) rfl (by kernel_rfl) ?_)
            | (refine store_blk (k := 0) 29 (.agg (ldC zLd zLdA)) (ldC zLd zLdA) (by rfl) rfl rfl rfl HR9 (by kernel_rfl) (Nat.le_of_eq rfl) (by rfl) (st_whole _ _ rfl) ?_; intro w11 HR11 b11 g11; have HE11 := HE9.grown g11 (by simp); have E11 := E9.trans b11)
            | (refine store_blk (k := 0) 32 (.agg (ftC 7 (e : Int))) (ftC 7 (e : Int)) (by rfl) rfl rfl rfl HE11 (by kernel_rfl) (Nat.le_of_eq rfl) (by rfl) (st_whole _ _ rfl) ?_; intro w12 HE12 b12 g12; have HR12 := HR11.grown g12 (by simp); have E12 := E11.trans (b12.mono (Nat.le_succ _))))
          refine bodyPost_ret (results_blk2 rfl rfl rfl HR12 HE12 (by kernel_rfl) (by kernel_rfl) (by kernel_rfl) (by kernel_rfl)) rfl ?_
          rw [hv2.out]
          exact ⟨zLdA, rfl, zLd_in _, E12⟩
        · have hv2 : Hid (RR = .ok (ldVal l)) := Lib.hid (hRk.out.trans (by rw [hA, if_neg h3]))
          have u1 : decide ((l.length : Int) < 3) = false := decide_eq_false (by omega)
          have u2 : decide (l.length < 3) = false := decide_eq_false h3
          obtain ⟨q, HD, o⟩ := HAk
          replace HD := HD.drew
          have HT : LdTail wr.drew D (ldVal l) q := LdTail.kept o ((Below.refl _ _).drew)
          replace HR9 := HR9.drew
          replace HE9 := HE9.drew
          replace E9 := E9.drew
          have hDR : ¬ D = w.heap.size := by omega
          have hDE : ¬ D = w.heap.size + 1 := by omega
          clear HMk hA hRk hLk HR5 HE5 E5 h3 o
          go_wp2_with fail
          refine wp_region_noPanic ?_
          refine wp_region_held_drew (S := (fun w' => Blk w' D 29 (ldC (ldVal l) q))) (by kernel_rfl) ?_ (fun hHeld => ?_)
          · exact HD
          refine wpAnyH_take (i := 0) (v := .agg (ldC (ldVal l) q)) rfl (by kernel_rfl) (by kernel_rfl) (by kernel_rfl) (fun _ _ _ h => h) (Or.inl ⟨by rfl, fun w hSw => exec_load_blk (k := 0) 29 (ldC (ldVal l) q) rfl rfl hSw (by kernel_rfl) (by kernel_rfl) rfl⟩) (by assumption) ?_
          (try simp only [Act.put, List.getElem_toArray, List.getElem_cons_zero, List.getElem_cons_succ, List.setIfInBounds_toArray, List.set_cons_zero, List.set_cons_succ])
          refine wpAnyH_ready (rs := [1]) (by kernel_rfl) (by simp) ?_
          refine AllReadyH.cons rfl (fun K hK => ?_) AllReadyH.nil
          simp only [List.getElem_toArray, List.getElem_cons_zero, List.getElem_cons_succ]
          go_simp
          go_at_call 15; (with_reducible refine (good_any _).mono ?_); rintro er w10 ⟨rfl, b10⟩; have HD10 := HD.kept b10; have HT10 := HT.kept b10; have HR10 := HR9.kept b10; have HE10 := HE9.kept b10; have E10 := E9.trans (b10.mono (Nat.le_of_lt (Nat.lt_of_lt_of_le HR9.lt (Nat.le_refl _))))
          refine hK.out _ _ ?_ (fun hHeld => ?_)
          · exact HD10
          clear hK K
          (try simp only [Act.put, List.getElem_toArray, List.getElem_cons_zero, List.getElem_cons_succ, List.setIfInBounds_toArray, List.set_cons_zero, List.set_cons_succ])
          refine wpAnyH_ready (rs := [2]) (by kernel_rfl) (by simp) ?_
          refine AllReadyH.cons rfl (fun K hK => ?_) AllReadyH.nil
          simp only [List.getElem_toArray, List.getElem_cons_zero, List.getElem_cons_succ]
          rw [if_pos (by rfl)]
          refine wp_store_op (k := 0) 29 (.agg (ldC (ldVal l) q)) (ldC (ldVal l) q) (by rfl) rfl rfl HR10 (by kernel_rfl) (show (11 : Nat) ≤ 11 from Nat.le_refl 11) (by rfl) (st_whole _ _ rfl) (fun w11 HR11 b11 g11 => ?_)
          have HD11 := HD10.grown g11 (by simpa using hDR)
          have HT11 := HT10.other HR10 (by decide) g11
          have HE11 := HE10.grown g11 (by simp)
          have E11 := E10.trans b11
          refine hK.out _ _ ?_ (fun hHeld => ?_)
          · exact HD11
          clear hK K
          (try simp only [Act.put, List.getElem_toArray, List.getElem_cons_zero, List.getElem_cons_succ, List.setIfInBounds_toArray, List.set_cons_zero, List.set_cons_succ])
          refine wpAnyH_ready (rs := [3]) (by kernel_rfl) (by simp) ?_
          refine AllReadyH.cons rfl (fun K hK => ?_) AllReadyH.nil
          simp only [List.getElem_toArray, List.getElem_cons_zero, List.getElem_cons_succ]
          rw [if_pos (by rfl)]
          refine wp_store_op (k := 0) 32 (.agg (ftC 0 (-1))) (ftC 0 (-1)) (by rfl) rfl rfl HE11 (by kernel_rfl) (show (2 : Nat) ≤ 2 from Nat.le_refl 2) (by rfl) (st_whole _ _ rfl) (fun w12 HE12 b12 g12 => ?_)
          have HD12 := HD11.grown g12 (by simpa using hDE)
          have HT12 := HT11.other HE11 (by decide) g12
          have HR12 := HR11.grown g12 (by simp)
          have E12 := E11.trans (b12.mono (Nat.le_succ _))
          refine hK.out _ _ ?_ (fun hHeld => ?_)
          · exact HD12
          clear hK K
          (try simp only [Act.put, List.getElem_toArray, List.getElem_cons_zero, List.getElem_cons_succ, List.setIfInBounds_toArray, List.set_cons_zero, List.set_cons_succ])
          refine wpAnyH_done (by kernel_rfl) ?_ _
          refine NoPanic.normal ?_
          go_wp2_with fail
          refine bodyPost_ret (results_blk2 rfl rfl rfl HR12 HE12 (by kernel_rfl) (by kernel_rfl) (by kernel_rfl) (by kernel_rfl)) rfl ?_
          rw [hv2.out]
          exact ⟨q, rfl, rows_inn HT12.1 HT12.2.1 HT12.2.2.1 HT12.2.2.2.1 HT12.2.2.2.2.1 HT12.2.2.2.2.2, E12⟩

end Go.Proofs.YtocgnbbnaamjjaaGreatDoor

