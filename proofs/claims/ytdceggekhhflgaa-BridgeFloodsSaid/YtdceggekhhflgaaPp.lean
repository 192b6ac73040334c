/- switchyardkeep: plainPorts, passes. -/
import Derived.Test.YtdceggekhhflgaaSv
namespace Go.Proofs.Ytdceggekhhflgaa
open Go.RowKit
attribute [local go_sem ↓] Go.wp_at_zero Go.wp_at_succ
set_option linter.unusedSimpArgs false
set_option linter.unusedVariables false
set_option maxRecDepth 100000

/-- A port that is a member of VIDs 1 and 2, and passes. -/
def pP : Ps := ⟨1, [1, 2], [1], 3⟩

theorem pP_ok : okPs pP = true := by decide

theorem fill_iv2 (x y : Int) : Instr.fill (fun i => some (i * 1, 1)) ((Array.range (2 * 1)).map ((Value.int .i64 0).cells[· % (Value.int .i64 0).cells.size]!)) [(0, .int .i64 x), (1, .int .i64 y)] = some #[.int .i64 x, .int .i64 y] := by kernel_rfl

theorem slice2L_iv {ops : Array Oper} {rest : List Oper} {o : Oper} {a : Act} {w : World} {Q : Exit → Act → World → Prop} {x0 x1 : Operand} (y0 y1 : Int) (hg : o.guard = none) (ho : o.op = .buildSlice 57 2 #[(0, x0), (1, x1)]) (h0 : a.eval x0 = .int .i64 y0) (h1 : a.eval x1 = .int .i64 y1)
    (h : ∀ w1, Blk w1 w.heap.size 3 #[.int .i64 y0, .int .i64 y1] → Below w.heap.size w w1 → w.heap.size < w1.heap.size → wpList Try.prog ops Q rest (a.put o.dst (.slice (some ⟨w.heap.size, 0, none⟩) 2 2)) w1) : wpList Try.prog ops Q (o :: rest) a w :=
  wpList_plain hg fun _ hK => by
    obtain ⟨i0, hi, hz0, hz1, hz2⟩ := info_parts Try.ivParts
    exact wp_buildSlice 57 3 2 _ ho #[.int .i64 y0, .int .i64 y1] i0 (.int .i64 0) Try.underlying57 hi hz0 (by rw [hz1]; decide) (by rw [hz1]; decide) (by rw [hz1]; simp only [List.map_toArray, List.map_cons, List.map_nil, h0, h1]; exact fill_iv2 y0 y1) (hK _ _ (h _ (Blk.new w _ _) ((Below.refl _ _).alloc (Nat.le_refl _) _) (Blk.new w _ _).lt))

theorem ivAt2 {w : World} {g : Nat} {x y : Int} (h : Blk w g 3 #[.int .i64 x, .int .i64 y]) : IvAt w g 0 [x, y] := by
  intro j hj k c hc
  have hk : k < 1 := (Array.getElem?_eq_some_iff.1 hc).1
  have hj2 : j < 2 := hj
  obtain rfl : k = 0 := by omega
  have : j = 0 ∨ j = 1 := by omega
  rcases this with rfl | rfl
  · exact h.cv 0 _ hc
  · exact h.cv 1 _ hc

theorem ivAt1 {w : World} {g : Nat} {x : Int} (h : Blk w g 3 (ivC x)) : IvAt w g 0 [x] := by
  intro j hj k c hc
  have hk : k < 1 := (Array.getElem?_eq_some_iff.1 hc).1
  have hj2 : j < 1 := hj
  obtain rfl : k = 0 := by omega
  obtain rfl : j = 0 := by omega
  exact h.cv 0 _ hc

set_option maxHeartbeats 3200000 in
theorem plainPorts_any (n : Nat) (hn : n ≤ 8) (w : World) :
    Calls Try.prog 13 #[.int .i64 (n : Int)] w fun e w' => (∃ v L, e = .returned v ∧ OwnPsH w' w.heap.size v L ∧ L.map PsH.x = List.replicate n pP ∧ (∀ h ∈ L, PsKp w' w.heap.size h)) ∧ Below w.heap.size w w' := by
  have HN := Lib.hid hn
  clear hn
  go_enter Try.func13, Try.ntmps13
  go_wp2_with fail
  go_loopw [3, 5] (fun s3 s5 wr => ∃ k : Nat, k ≤ n ∧ s5 = .int .i64 k ∧ (∃ v L, v = s3 ∧ OwnPsH wr w.heap.size v L ∧ L.map PsH.x = List.replicate k pP ∧ (∀ h ∈ L, PsKp wr w.heap.size h)) ∧ Below w.heap.size w wr) (fun _ i _ => n - (intOf i).toNat)
  case atStart => exact ⟨0, by omega, rfl, ⟨_, [], rfl, OwnPsH.nil _ _, rfl, by simp⟩, Below.refl _ _⟩
  case round =>
    obtain ⟨k, hk, rfl, ⟨v, L, rfl, hO, hL, hP⟩, Bk⟩ := hrel
    obtain ⟨a0, c0, rfl, -⟩ := hO.inL
    by_cases hlt : k < n
    · have q1 : (k : Int) < (n : Int) := by omega
      have q2 : decide ((k : Int) < (n : Int)) = true := decide_eq_true q1
      have q3 : (0 : Int) ≤ (k : Int) := by omega
      have q4 : IntKind.i64.wrap ((k : Int) + 1) = (k : Int) + 1 := by have := HN.out; rw [IntKind.wrap_i64] <;> omega
      have HR : Hid (List.replicate (k + 1) pP = List.replicate k pP ++ [pP]) := List.replicate_succ'
      have hLs : L.length ≤ 100000 := by
        have e1 := congrArg List.length hL
        rw [List.length_map, List.length_replicate] at e1
        have := HN.out
        omega
      have HB := Lib.hid Bk.size
      go_upto_region 5 with (first
        | (refine slice2L_iv 1 2 (by rfl) rfl rfl rfl ?_; intro w1 h1 k1 s1)
        | (refine sliceL_iv 1 (by rfl) rfl rfl ?_; intro w2 h2 k2 s2)
        | (refine build_blk (psC ⟨pP, some ⟨wr.heap.size, 0, none⟩, 2, some ⟨w1.heap.size, 0, none⟩, 1⟩) (by rfl) rfl (by kernel_rfl) ?_)
        | (refine sliceL_ps ⟨pP, some ⟨wr.heap.size, 0, none⟩, 2, some ⟨w1.heap.size, 0, none⟩, 1⟩ (by rfl) rfl rfl ?_; intro w3 h3 k3 s3;
           have k12 := (k1.trans (k2.mono k1.size)).trans (k3.mono (k1.trans (k2.mono k1.size)).size);
           have hO3 := hO.kept k12;
           have Bk3 := Bk.trans (k12.mono Bk.size))
        | (refine appendL_ps ⟨pP, some ⟨wr.heap.size, 0, none⟩, 2, some ⟨w1.heap.size, 0, none⟩, 1⟩ (by rfl) rfl rfl rfl hO3 h3 hLs Bk3.size ?_; intro v4 w4 hO4 b4 g4))
      have ap := fun (g : Nat) (T : TypeId) (C : Array Value) (r : Blk w3 g T C) (hT : T ≠ 59) => hO3.apartP g4 r hT
      have h1' := (h1.kept k2).kept k3
      have h2' := h2.kept k3
      have g1 : Blk w4 wr.heap.size 3 _ := (ap _ _ _ h1' (by decide)).trans h1'
      have g2 : Blk w4 w1.heap.size 3 _ := (ap _ _ _ h2' (by decide)).trans h2'
      have hY : PsKp w4 w.heap.size ⟨pP, some ⟨wr.heap.size, 0, none⟩, 2, some ⟨w1.heap.size, 0, none⟩, 1⟩ :=
        ⟨Or.inr ⟨_, 0, _, rfl, HB.out, g1, ivAt2 g1⟩, Or.inr ⟨_, 0, _, rfl, Nat.le_trans HB.out k1.size, g2, ivAt1 g2⟩, Nat.le_refl 2, Nat.le_refl 1, show (2 : Nat) ≤ maxLen by decide, show (1 : Nat) ≤ maxLen by decide⟩
      have hP4 := fun h q => ((hP h q).keep (w' := w3) fun g C r _ => k12.block g r.lt).keep (w' := w4) fun g C r _ => ap g _ C r (by decide)
      have HMAP : Hid ((L ++ [(⟨pP, some ⟨wr.heap.size, 0, none⟩, 2, some ⟨w1.heap.size, 0, none⟩, 1⟩ : PsH)]).map PsH.x = List.replicate (k + 1) pP) := by
        show _ = _
        rw [HR.out, List.map_append, hL]
        rfl
      have B4 := Bk3.trans b4
      go_wp2
      go_roundw
      case rel => exact ⟨k + 1, by omega, by go_num, ⟨_, _, rfl, hO4, HMAP.out, fun y hy => by
        rcases List.mem_append.1 hy with q | q
        · exact hP4 y q
        · rw [List.mem_singleton.1 q]; exact hY⟩, B4⟩
      case measure => simp [intOf]; omega
    · obtain rfl : k = n := by omega
      have q2 : decide ((k : Int) < (k : Int)) = false := decide_eq_false (by omega)
      go_wp2
      go_ret
      exact ⟨⟨_, L, rfl, hO, hL, hP⟩, Bk⟩

def pF : Fr := ⟨fun i => if i = 0 then 4 else 0, fun i => if i = 0 then 2 else 0, none, [], 0, 1, 2048, 0, 0, 0, 0, 0, ⟨#[]⟩⟩

theorem pF_in : inM [pP, pP, pP] 100 0 [] 1 pF 5 = ⟨0, 5, [⟨1, pF.s, 1, 5⟩], [0, 2]⟩ := by kernel_rfl

theorem pF_look : lookM 100 [⟨1, pF.s, 1, 5⟩] 1 pF.s 5 = 1 := by kernel_rfl

theorem Sents.two {w : World} {f : Fr} {vid : Int} {ps : List Ps} {i j : Nat} {ss : List SnH} (h : Sents w f vid ps [i, j] ss) : ∃ x y, ss = [x, y] ∧ SentOk w f vid ps i x ∧ SentOk w f vid ps j y := by
  have hl := h.len
  rw [show [i, j].length = 2 from rfl] at hl
  obtain ⟨x, y, rfl⟩ : ∃ x y, ss = [x, y] := by
    cases ss with
    | nil => cases hl
    | cons x m =>
      cases m with
      | nil => cases hl
      | cons y n =>
        cases n with
        | nil => exact ⟨x, y, rfl⟩
        | cons z n => simp at hl
  exact ⟨x, y, rfl, h.get 0 (by simp) (by simp), h.get 1 (by simp) (by simp)⟩

end Go.Proofs.Ytdceggekhhflgaa
