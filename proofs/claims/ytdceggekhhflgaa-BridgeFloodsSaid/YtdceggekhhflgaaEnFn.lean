/- slices.IndexFunc, slices.DeleteFunc over entries, whatever the predicate. -/
import Derived.Test.YtdceggekhhflgaaEn
import Derived.Shelf.Abstract
namespace Go.Proofs.Ytdceggekhhflgaa
open Go.RowKit
open Go.Shelf
attribute [local go_sem ↓] Go.wp_at_zero Go.wp_at_succ
set_option linter.unusedSimpArgs false
set_option linter.unusedVariables false
set_option maxRecDepth 100000
set_option linter.unusedSectionVars false
variable [Zone]

theorem Try.enT : EnT 100 102 := ⟨by kernel_rfl, Try.underlying102⟩

/-- A function value that answers p of any entry, where G is so. -/
def PredE (g : Nat) (lb : Array Value) (p : Ent → Bool) (G : World → Prop) : Prop :=
  ∀ e w, OkE e → G w → Calls Try.prog g (#[.agg (enC e)] ++ lb) w fun x w' => x = .returned (.bool (p e)) ∧ Below w.heap.size w w'

set_option maxHeartbeats 1600000 in
theorem indexFunc_any (g : Nat) (lb : Array Value) (p : Ent → Bool) (G : World → Prop) (eg : ∀ args w, (callFunc g args).run Try.prog w = .ok (.enter g args) w) (hp : PredE g lb p G)
    (hG : ∀ w w', G w → Lx 0 [100] w w' → G w') (B : Nat) (ad : Option Addr) (c : Nat) (l : List Ent) (w : World) (h : RowA w B 100 (.slice ad l.length c) l) (h0 : G w) (hok : ∀ e ∈ l, OkE e) (hlen : l.length ≤ 32) :
    Calls Try.prog 75 #[.slice ad l.length c, .func (.func g) #[] lb] w fun e w' => ((e = .returned (.int .i64 (-1)) ∧ ∀ x ∈ l, p x = false) ∨ ∃ k : Nat, ∃ hk : k < l.length, e = .returned (.int .i64 k) ∧ (∀ x ∈ l.take k, p x = false) ∧ p l[k] = true) ∧ Below w.heap.size w w' := by
  have HNO := Lib.hid (fun (x : Ent) (W : World) (h1 : OkE x) (h2 : G W) => hp x W h1 h2)
  have HG := Lib.hid hG
  have HOK := Lib.hid hok
  have HL := Lib.hid hlen
  have hll : l.length ≤ 9223372036854775807 := by omega
  clear hp hG hok hlen
  go_enter Try.func75, Try.ntmps75
  go_wp2_with fail
  go_loopw [8] (fun i wr => ∃ k : Nat, k ≤ l.length ∧ i = .int .i64 k ∧ (∀ x ∈ l.take k, p x = false) ∧ Below w.heap.size w wr) (fun i _ => l.length - (intOf i).toNat)
  case atStart => exact ⟨0, by omega, rfl, by simp, Below.refl _ _⟩
  case round =>
    obtain ⟨k, hk, rfl, hall, Bk⟩ := hrel
    by_cases hlt : k < l.length
    · have hI := h.kept Bk
      obtain ⟨b, lo, rfl, hbl, HK⟩ := hI.at hlt
      have q1 : (k : Int) < (l.length : Int) := by omega
      have q2 : decide ((k : Int) < (l.length : Int)) = true := decide_eq_true q1
      have q3 : (0 : Int) ≤ (k : Int) := by omega
      have q4 : IntKind.i64.wrap ((k : Int) + 1) = (k : Int) + 1 := by have := HL.out; rw [IntKind.wrap_i64] <;> omega
      have HN2 := Lib.hid (HNO.out l[k] wr (HOK.out _ (List.getElem_mem hlt)) (HG.out _ _ h0 (Lx.of Bk)))
      have HS := Lib.hid (show l.take (k + 1) = l.take k ++ [l[k]] by rw [List.take_add_one, List.getElem?_eq_getElem hlt]; rfl)
      obtain ⟨x, HX⟩ : ∃ x, Hid (l[k] = x) := ⟨_, Lib.hid rfl⟩
      rw [HX.out] at HN2 HS HK
      clear h hI HNO
      cases hx : p x with
      | false =>
        rw [hx] at HN2
        go_wp2_with (first | (refine load_cells (B := b) (k := lo + k * 9) 100 (enC x) (by rfl) rfl rfl HK (by kernel_rfl) (by kernel_rfl) ?_) | (go_at_fn g; refine HN2.out.mono ?_; rintro e w2 ⟨rfl, k2⟩))
        have B2 := Bk.trans (k2.mono Bk.size)
        clear HN2 HK
        go_roundw
        case rel => exact ⟨k + 1, by omega, by go_num, by
          rw [HS.out]
          intro y hy
          rcases List.mem_append.1 hy with q | q
          · exact hall y q
          · rw [List.mem_singleton.1 q]; exact hx, B2⟩
        case measure => simp [intOf]; omega
      | true =>
        rw [hx] at HN2
        go_wp2_with (first | (refine load_cells (B := b) (k := lo + k * 9) 100 (enC x) (by rfl) rfl rfl HK (by kernel_rfl) (by kernel_rfl) ?_) | (go_at_fn g; refine HN2.out.mono ?_; rintro e w2 ⟨rfl, k2⟩))
        have B2 := Bk.trans (k2.mono Bk.size)
        clear HN2 HK
        go_ret
        exact ⟨Or.inr ⟨k, hlt, rfl, hall, by rw [HX.out]; exact hx⟩, B2⟩
    · obtain rfl : k = l.length := by omega
      have q2 : decide ((l.length : Int) < (l.length : Int)) = false := decide_eq_false (by omega)
      have hno : Hid (∀ x ∈ l, p x = false) := by
        rw [List.take_length] at hall
        exact hall
      clear hall
      go_wp2
      go_ret
      exact ⟨Or.inl ⟨rfl, hno.out⟩, Bk⟩

theorem st_whole' (C X : Array Value) (h : C.size = X.size) : (C.toList.take 0 ++ X.toList ++ C.toList.drop (0 + X.toList.length)).toArray = X := by
  have e : C.toList.drop (0 + X.toList.length) = [] := List.drop_of_length_le (by simp [h])
  rw [e]
  simp

theorem Try.enZero : (Try.prog.info? 100).map (·.zero) = some (some (.agg (enC zEnt))) := by kernel_rfl

theorem filter_none {p : Ent → Bool} {l : List Ent} (h : ∀ x ∈ l, p x = false) : l.filter (fun e => !p e) = l := List.filter_eq_self.2 fun x hx => by rw [h x hx]; rfl

set_option maxHeartbeats 3200000 in
theorem deleteFunc_any (g : Nat) (lb : Array Value) (p : Ent → Bool) (G : World → Prop) (eg : ∀ args w, (callFunc g args).run Try.prog w = .ok (.enter g args) w) (hp : PredE g lb p G)
    (hG : ∀ w w', G w → Lx 0 [100] w w' → G w') (B : Nat) (v : Value) (l : List Ent) (w : World) (h : RowE w B 100 v l) (h0 : G w) (hok : ∀ e ∈ l, OkE e) (hlen : l.length ≤ 32) (hB : Zone.up B ≤ w.heap.size) :
    Calls Try.prog 74 #[v, .func (.func g) #[] lb] w fun e w' => ∃ v', e = .returned v' ∧ RowE w' B 100 v' (l.filter fun e => !p e) ∧ Lx B [100] w w' := by
  obtain ⟨ad, c, rfl⟩ := h.toA.form
  have HI := Lib.hid (indexFunc_any g lb p G eg hp hG B ad c l w h.toA h0 hok hlen)
  have HNO := Lib.hid (fun (x : Ent) (W : World) (h1 : OkE x) (h2 : G W) => hp x W h1 h2)
  have HG := Lib.hid hG
  have HOK := Lib.hid hok
  have HL := Lib.hid hlen
  have HR := Lib.hid h
  clear hp hG hok hlen h
  go_enter Try.func74, Try.ntmps74
  go_wp2_with fail
  refine HI.out.mono ?_
  rintro e w1 ⟨hcase, k1⟩
  clear HI
  have HR1 := Lib.hid (HR.out.kept k1)
  rcases hcase with ⟨rfl, hno⟩ | ⟨k, hk, rfl, hall, hyes⟩
  · go_wp2
    go_ret
    refine ⟨_, rfl, ?_, Lx.of k1⟩
    rw [filter_none hno]
    exact HR1.out
  · have hA := HR1.out.toA
    obtain ⟨b, lo, hlo, hbl, HK⟩ := hA.at hk
    have hg : ∃ g0, ad = some ⟨g0, 0, none⟩ := by
      rcases HR1.out.2 with ⟨e, q⟩ | ⟨g0, cap, cur, e, _⟩
      · injection e with e1 e2 e3
        omega
      · injection e with e1 e2 e3
        exact ⟨g0, e1⟩
    obtain ⟨g0, rfl⟩ := hg
    have hll := HL.out
    have q0 : ((k : Int) == -1) = false := beq_eq_false_iff_ne.2 (by omega)
    have q1 : IntKind.i64.wrap ((k : Int) + 1) = (k : Int) + 1 := by rw [IntKind.wrap_i64] <;> omega
    have hst : Hid ((l.take (k + 1)).filter (fun e => !p e) = l.take k ∧ (l.take k).length = k) := by
      refine ⟨?_, by rw [List.length_take]; omega⟩
      rw [List.take_add_one, List.getElem?_eq_getElem hk, List.filter_append, filter_none hall]
      simp [hyes]
    clear hA hlo hbl HK hall
    go_wp2_with fail
    go_loopw [5, 6, 7] (fun s5 s6 _ wr => ∃ i j : Nat, s5 = .int .i64 i ∧ s6 = .int .i64 j ∧ i < j ∧ j ≤ l.length ∧ Hid (((l.take j).filter fun e => !p e).length = i) ∧ RowE wr B 100 (.slice (some ⟨g0, 0, none⟩) l.length c) ((l.take j).filter (fun e => !p e) ++ l.drop i) ∧ Lx B [100] w wr) (fun _ s6 _ _ => l.length - (intOf s6).toNat)
    case atStart =>
      refine ⟨k, k + 1, rfl, by go_num, by omega, by omega, ?_, ?_, Lx.of k1⟩
      · rw [hst.out.1]; exact hst.out.2
      · rw [hst.out.1, List.take_append_drop]; exact HR1.out
    case round =>
      obtain ⟨i, j, rfl, rfl, hij, hjl, hfl, HRr, Bk⟩ := hrel
      by_cases hlt : j < l.length
      · have q2 : decide ((j : Int) < (l.length : Int)) = true := decide_eq_true (by omega)
        have q3 : IntKind.i64.wrap ((j : Int) + 1) = (j : Int) + 1 := by rw [IntKind.wrap_i64] <;> omega
        have q4 : IntKind.i64.wrap ((i : Int) + 1) = (i : Int) + 1 := by rw [IntKind.wrap_i64] <;> omega
        have q5 : (0 : Int) ≤ (j : Int) := by omega
        have q6 : (0 : Int) ≤ (i : Int) := by omega
        have q7 : decide ((i : Int) < (l.length : Int)) = true := decide_eq_true (by omega)
        have hE : ∃ x, l[j]? = some x ∧ OkE x ∧ (∃ hj : j < ((l.take j).filter (fun e => !p e) ++ l.drop i).length, ((l.take j).filter (fun e => !p e) ++ l.drop i)[j] = x) := by
          refine ⟨l[j], List.getElem?_eq_getElem hlt, HOK.out _ (List.getElem_mem hlt), ?_⟩
          have hfl' : ((l.take j).filter fun e => !p e).length = i := hfl
          refine ⟨by rw [List.length_append, hfl', List.length_drop]; omega, ?_⟩
          rw [List.getElem_append_right (by omega), List.getElem_drop]
          congr 1
          omega
        obtain ⟨x, hx, hokx, hj, hxj⟩ := hE
        obtain ⟨b, lo, e1, hbl2, HK⟩ := HRr.toA.at hj
        injection e1 with e1
        injection e1 with e1 e2
        subst e1 e2
        rw [hxj, Nat.zero_add] at HK
        have HX := Lib.hid hx
        have HF := Lib.hid (show (l.take (j + 1)).filter (fun e => !p e) = (l.take j).filter (fun e => !p e) ++ [x].filter (fun e => !p e) by rw [List.take_add_one, hx, List.filter_append]; rfl)
        have HRr := Lib.hid HRr
        have hsw := Bk.size
        have HA4 := Blk.new wr 100 (enC zEnt)
        have b4 : Below wr.heap.size wr (wr.alloc (.cells (enC zEnt) 100)) := (Below.refl _ _).alloc (Nat.le_refl _) _
        clear hx hj hxj
        go_upto_region 8 with (first
          | (refine load_cells (B := g0) (k := j * 9) 100 (enC x) (by rfl) rfl rfl HK (by kernel_rfl) (by kernel_rfl) ?_)
          | (refine alloc_blk 100 (enC zEnt) (by rfl) rfl Try.enZero ?_)
          | (refine store_blk (k := 0) 100 (.agg (enC x)) (enC x) (by rfl) rfl rfl rfl HA4 (by kernel_rfl) (show (9 : Nat) ≤ 9 from Nat.le_refl 9) (by rfl) (st_whole' _ _ rfl) ?_; intro w5 HA5 b5 g5))
        have B5 : Below wr.heap.size wr w5 := b4.trans b5
        have L5 := Bk.trans (Lx.of B5)
        have HN2 := Lib.hid (HNO.out x w5 hokx (HG.out _ _ h0 (L5.mono (Nat.zero_le _) fun _ q => q)))
        have HR5 := Lib.hid (HRr.out.kept B5)
        have hN : Zone.up B ≤ wr.heap.size := Nat.le_trans hB hsw
        clear HA4 b4 b5 g5 HK HRr B5 HNO
        generalize wr.heap.size = N at *
        have HLD : ∀ w6, Below w5.heap.size w5 w6 → Blk w6 N 100 (enC x) := fun w6 k6 => HA5.kept k6
        have HLD := Lib.hid HLD
        cases hpx : p x with
        | true =>
          rw [hpx] at HN2
          go_wp2_with (first
            | (refine load_blk (B := N) (k := 0) 100 (enC x) (by rfl) rfl rfl HA5 (by kernel_rfl) (by kernel_rfl) (by rfl) ?_)
            | (go_at_fn g; refine HN2.out.mono ?_; rintro e w6 ⟨rfl, k6⟩))
          clear HN2
          go_roundw
          case rel =>
            have hf : (l.take (j + 1)).filter (fun e => !p e) = (l.take j).filter (fun e => !p e) := by rw [HF.out]; simp [hpx]
            refine ⟨i, j + 1, rfl, by go_num, by omega, by omega, ?_, ?_, L5.trans (Lx.of k6)⟩
            · rw [hf]; exact hfl
            · rw [hf]; exact HR5.out.kept k6
          case measure => simp [intOf]; omega
        | false =>
          rw [hpx] at HN2
          have hil : i < l.length := by omega
          have HS : Hid (∀ w6, Below w5.heap.size w5 w6 → ∃ C, Blk w6 g0 100 C ∧ i * 9 + 9 ≤ C.size ∧ Own B g0 ∧ ∀ w', Blk w' g0 100 (C.toList.take (i * 9) ++ (enC x).toList ++ C.toList.drop (i * 9 + 9)).toArray →
              RowE w' B 100 (.slice (some ⟨g0, 0, none⟩) l.length c) ((l.take (j + 1)).filter (fun e => !p e) ++ l.drop (i + 1))) := by
            intro w6 k6
            have h6 := HR5.out.kept k6
            rw [List.drop_eq_getElem_cons hil] at h6
            obtain ⟨C, c1, c2, c3, c4⟩ := h6.store x
            have hfl' : ((l.take j).filter fun e => !p e).length = i := hfl
            rw [hfl'] at c2 c4
            refine ⟨C, c1, c2, c3, fun w' hw' => ?_⟩
            have hf : (l.take (j + 1)).filter (fun e => !p e) = (l.take j).filter (fun e => !p e) ++ [x] := by rw [HF.out]; simp [hpx]
            rw [hf, List.append_assoc]
            exact c4 w' hw'
          clear HR5
          go_wp2_with (first
            | (refine load_blk (B := N) (k := 0) 100 (enC x) (by rfl) rfl rfl HA5 (by kernel_rfl) (by kernel_rfl) (by rfl) ?_)
            | (go_at_fn g; refine HN2.out.mono ?_; rintro e w6 ⟨rfl, k6⟩; obtain ⟨C6, m1, m2, m3, m4⟩ := HS.out w6 k6; have HA6 := HLD.out w6 k6; have m4 := Lib.hid m4; clear HA5)
            | (refine load_blk (B := N) (k := 0) 100 (enC x) (by rfl) rfl rfl HA6 (by kernel_rfl) (by kernel_rfl) (by rfl) ?_)
            | (refine store_blk (B := g0) (k := i * 9) 100 (.agg (enC x)) _ (by rfl) rfl rfl rfl m1 (by kernel_rfl) m2 (by rfl) rfl ?_; intro w7 HA7 b7 g7))
          clear HN2
          go_roundw
          case rel =>
            refine ⟨i + 1, j + 1, by go_num, by go_num, by omega, by omega, ?_, m4.out w7 HA7, (L5.trans (Lx.of k6)).grown g7 m3 List.mem_cons_self m1⟩
            show ((l.take (j + 1)).filter fun e => !p e).length = i + 1
            rw [HF.out]
            have hfl' : ((l.take j).filter fun e => !p e).length = i := hfl
            simp [hpx, hfl']
          case measure => simp [intOf]; omega
      · obtain rfl : j = l.length := by omega
        have q2 : decide ((l.length : Int) < (l.length : Int)) = false := decide_eq_false (by omega)
        rw [List.take_length] at HRr hfl
        have hil : i < l.length := hij
        have hcut := HRr.cut
        obtain ⟨C, c1, c2, c3, c4, c5, c6⟩ := hcut
        have hfl' : (l.filter fun e => !p e).length = i := hfl
        have hdl : (l.drop i).length = l.length - i := List.length_drop
        rw [hfl'] at c2 c4 c6
        rw [hdl] at c2 c4
        have c6 := Lib.hid c6
        have HBk := Lib.hid Bk
        have hne : c ≠ i := by omega
        clear HRr Bk hst
        go_wp2_with (first
          | (refine clear_en Try.enT (by rfl) rfl rfl c1 (show 0 < l.length - i by omega) (show i * 9 + (l.length - i) * 9 ≤ C.size by omega) ?_; intro w2 C2 d1 d2 d3 d4))
        go_ret
        exact ⟨_, rfl, c6.out w2 C2 d1 d2 d3, HBk.out.grown d4 c3 List.mem_cons_self c1⟩

theorem RowE.sub {w : World} {B g n c : Nat} {T : TypeId} {l m : List Ent} {C : Array Value} {w' : World} (h : RowE w B T (.slice (some ⟨g, 0, none⟩) n c) l) (hm : m.length ≤ l.length) (hC : ∃ C0, Blk w g T C0 ∧ C.size = C0.size) (hb : Blk w' g T C) (hr : C.toList.take (m.length * 9) = enR m) : RowE w' B T (.slice (some ⟨g, 0, none⟩) m.length c) m := by
  rcases h with ⟨h0, ⟨e, _⟩ | ⟨g', cap, cur, e, h1, h2, h3, h4, h5, h6⟩⟩
  · cases e
  · injection e with e1 e2 e3
    cases e1
    subst e3
    obtain ⟨C0, k1, k2⟩ := hC
    have hc : C0 = cur := by
      have e : some (Obj.cells C0 T (0, 0)) = some (Obj.cells cur T (0, 0)) := k1.symm.trans h2
      injection e with e
      injection e
    subst hc
    exact ⟨enR_len m, Or.inr ⟨_, _, C, rfl, h1, hb, by omega, h4, k2.trans h5, hr⟩⟩

set_option maxHeartbeats 3200000 in
theorem delete_first (B g0 c : Nat) (l : List Ent) (w : World) (h : RowE w B 100 (.slice (some ⟨g0, 0, none⟩) l.length c) l) (hlen : l.length = 32) :
    Calls Try.prog 67 #[.slice (some ⟨g0, 0, none⟩) l.length c, .int .i64 0, .int .i64 1] w fun e w' => ∃ v', e = .returned v' ∧ RowE w' B 100 v' (l.drop 1) ∧ Lx B [100] w w' := by
  have HR := Lib.hid h
  obtain ⟨x, m, hl⟩ : ∃ x m, l = x :: m := by
    cases l with
    | nil => simp at hlen
    | cons x m => exact ⟨x, m, rfl⟩
  subst hl
  have hm : m.length = 31 := by simpa using hlen
  have h2 : RowE w B 100 (.slice (some ⟨g0, 0, none⟩) (x :: m).length c) ([] ++ (x :: m)) := h
  obtain ⟨C, c1, c2, c3, c4, c5, _⟩ := h2.cut
  have hat := h.toA
  have hat2 : EnAt w g0 0 (x :: m) := enAt_own rfl h.lib
  rw [hlen] at *
  have hl0 : ([] : List Ent).length = 0 := rfl
  rw [hl0] at c2 c4
  rw [hlen] at c2 c4
  have hfirst : Hid (EnAt w g0 9 m) := by
    intro j hj k v hv
    have := hat2 (j + 1) (by simpa using hj) k v (by simpa using hv)
    rw [show 9 + j * 9 + k = 0 + (j + 1) * 9 + k by omega]
    exact this
  have hne : c ≠ 1 := by omega
  have hll := enR_len m
  rw [hm] at hll
  have hcc := enR_cells m
  have HM := Lib.hid (show (enR m).length = 31 * 9 from hll)
  have HC := Lib.hid hcc
  have c2' : 32 * 9 ≤ C.size := by omega
  have q1 : decide (c < 32) = false := decide_eq_false (by omega)
  clear h h2 hat hat2 hll hcc c2
  go_enter Try.func67, Try.ntmps67
  go_wp2_with fail
  go_region_law (refine step_append_in Try.enT rfl (.tmp 22) (.tmp 25) rfl g0 0 c C (by simp [Act.eval, Act.put]) ⟨g0, 9, none⟩ 31 (c - 1) (enR m) (by simp [Act.eval, Act.put, hne]) HM.out (enAt_news hfirst.out) HC.out (by omega) (show Blk w.drew g0 100 C from c1) (by omega) ?_; intro w2 d1 d2)
  obtain ⟨C2, e2, s2, t2⟩ : ∃ C2 : Array Value, (C.toList.take (0 * 9) ++ enR m ++ C.toList.drop (0 * 9 + 31 * 9)).toArray = C2 ∧ C2.size = C.size ∧ C2.toList.take 279 = enR m := by
    refine ⟨_, rfl, ?_, ?_⟩
    · have h8 : C.toList.length = C.size := Array.length_toList
      have := HM.out
      simp only [List.size_toArray, List.length_append, List.length_take, List.length_drop, h8]
      omega
    · have := HM.out
      rw [Nat.zero_mul, List.take_zero, List.nil_append]
      exact List.take_left' (by omega)
  rw [e2] at d1
  have t2 := Lib.hid t2
  have e2 := Lib.hid e2
  have hne31 : c ≠ 31 := by omega
  have s3 : 279 + 1 * 9 ≤ C2.size := by omega
  have L2 : Lx B [100] w w2 := (Lx.refl B _ w).grown (show w.grownBy w2 (some g0) from ⟨d2.os, d2.tape, d2.output, d2.size, d2.block⟩) c3 List.mem_cons_self c1
  clear hfirst HC
  go_wp2_with (first
    | (refine clear_en (n := 1) (k := 279) Try.enT (by rfl) rfl rfl d1 (by omega) s3 ?_; intro w3 C3 f1 f2 f3 f4))
  go_ret
  refine ⟨_, rfl, ?_, L2.grown f4 c3 List.mem_cons_self d1⟩
  show RowE w3 B 100 (.slice (some ⟨g0, 0, none⟩) 31 c) m
  have := HR.out.sub (m := m) (C := C3) (by simp) ⟨C, c1, f2.trans s2⟩ f1 (by rw [hm]; exact f3.trans t2.out)
  rw [hm] at this
  exact this

end Go.Proofs.Ytdceggekhhflgaa
