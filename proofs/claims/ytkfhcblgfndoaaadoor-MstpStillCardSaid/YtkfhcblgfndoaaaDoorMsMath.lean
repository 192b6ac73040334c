/- 12.2, 12.3: what is written is read; what is read is right: plain. -/
import Derived.Test.YtkfhcblgfndoaaaDoorBpAtM
import Derived.Test.YtkfhcblgfndoaaaDoorMsWays
namespace Go.Proofs.YtkfhcblgfndoaaaDoor
open Go.RowKit
set_option linter.unusedVariables false
set_option linter.unusedSimpArgs false

/-- The cells of a message hang on its numbers alone. -/
theorem msC_congr (a b : Ms) (v : Value) (h0 : bpC a.base = bpC b.base) (h1 : a.name = b.name) (h2 : a.rev = b.rev) (h3 : a.dig = b.dig) (h4 : a.cost = b.cost) (h5 : brC a.br = brC b.br) (h6 : a.hop = b.hop) : msC a v = msC b v := by
  obtain ⟨⟨k, ⟨x0, x1, x2, x3, x4, x5, x6⟩, ⟨rp, re, ra⟩, c, ⟨sp, se, sa⟩, pp, pn, t1, t2, t3, t4⟩, nm, rv, dg, co, ⟨bp, be, ba⟩, ho⟩ := a
  obtain ⟨⟨k', ⟨y0, y1, y2, y3, y4, y5, y6⟩, ⟨rp', re', ra'⟩, c', ⟨sp', se', sa'⟩, pp', pn', t1', t2', t3', t4'⟩, nm', rv', dg', co', ⟨bp', be', ba'⟩, ho'⟩ := b
  simp only at h1 h2 h3 h4 h6
  subst h1 h2 h3 h4 h6
  simp only [brC, Array.mk.injEq, List.cons.injEq, Value.int.injEq, true_and, and_true] at h5
  simp only [bpC, Array.mk.injEq, List.cons.injEq, Value.int.injEq, Value.bool.injEq, true_and, and_true] at h0
  obtain ⟨rfl, rfl, rfl, rfl, rfl, rfl, rfl, rfl, rfl, rfl, g2, g3, g4, g5, g6, g7, rfl, rfl, rfl, f2, f3, f4, f5, f6, f7, rfl, rfl, rfl, rfl, rfl, rfl⟩ := h0
  obtain ⟨rfl, rfl, e2, e3, e4, e5, e6, e7⟩ := h5
  simp only [msC, g2, g3, g4, g5, g6, g7, f2, f3, f4, f5, f6, f7, e2, e3, e4, e5, e6, e7]

theorem inC_congr (a b : Ins) (h0 : a.f = b.f) (h1 : brC a.root = brC b.root) (h2 : a.cost = b.cost) (h3 : a.br = b.br) (h4 : a.pt = b.pt) (h5 : a.hop = b.hop) : inC a = inC b := by
  obtain ⟨f, ⟨rp, re, ra⟩, c, x, y, h⟩ := a
  obtain ⟨f', ⟨rp', re', ra'⟩, c', x', y', h'⟩ := b
  simp only at h0 h2 h3 h4 h5
  subst h0 h2 h3 h4 h5
  simp only [brC, Array.mk.injEq, List.cons.injEq, Value.int.injEq, true_and, and_true] at h1
  obtain ⟨rfl, rfl, e2, e3, e4, e5, e6, e7⟩ := h1
  simp only [inC, e2, e3, e4, e5, e6, e7]

theorem drop_rep (n : Nat) (u : List UInt8) : (List.replicate n (0 : UInt8) ++ u).dropWhile (· == 0) = u.dropWhile (· == 0) := by
  induction n with
  | zero => rfl
  | succ n ih => rw [List.replicate_succ, List.cons_append, List.dropWhile_cons_of_pos (by rfl), ih]

theorem trim_pad (l : List UInt8) (n : Nat) (h : (l.getLast? == some 0) = false) : Lib.trimRightB (l ++ List.replicate n 0) 0 = l := by
  unfold Lib.trimRightB
  rw [List.reverse_append, List.reverse_replicate, drop_rep]
  have h2 : l.reverse.dropWhile (· == 0) = l.reverse := by
    rw [List.getLast?_eq_head?_reverse] at h
    generalize l.reverse = u at *
    match u with
    | [] => rfl
    | x :: u =>
      refine List.dropWhile_cons_of_neg ?_
      intro q
      rw [beq_iff_eq] at q
      subst q
      simp at h
  rw [h2, List.reverse_reverse]

theorem trim_len (l : List UInt8) : (Lib.trimRightB l 0).length ≤ l.length := by
  unfold Lib.trimRightB
  rw [List.length_reverse]
  have h := (List.dropWhile_sublist (l := l.reverse) (· == 0)).length_le
  rw [List.length_reverse] at h
  exact h

theorem trim_last (l : List UInt8) : ((Lib.trimRightB l 0).getLast? == some 0) = false := by
  unfold Lib.trimRightB
  rw [List.getLast?_reverse]
  cases h : (l.reverse.dropWhile (· == 0)).head? with
  | none => rfl
  | some x =>
    have h2 := List.head?_dropWhile_not (· == 0) l.reverse
    rw [h] at h2
    simp only [beq_eq_false_iff_ne, ne_eq, Option.some.injEq]
    intro q
    subst q
    simp at h2

/-- Field by field, where it stands. -/
theorem insE_none (n p : Nat) : ∀ k, p + 16 * k ≤ n → insE n p k = none
  | 0, _ => rfl
  | k + 1, h => by
    show (if (insE n p k).isSome = true then insE n p k else inE n (p + 16 * k)) = none
    rw [insE_none n p k (by omega)]
    show inE n (p + 16 * k) = none
    unfold inE
    rw [if_neg (by omega), if_neg (by omega), if_neg (by omega), if_neg (by omega), if_neg (by omega), if_neg (by omega), if_neg (by omega)]

theorem okIns_all {x : Ins} (h : okIns x = true) : okF x.f = true ∧ okB x.root = true ∧ fitI 4 x.cost = true ∧ (0 ≤ x.br ∧ x.br ≤ 15) ∧ (0 ≤ x.pt ∧ x.pt ≤ 15) ∧ fitI 1 x.hop = true := by
  simp only [okIns, Bool.and_eq_true] at h
  obtain ⟨h0, h1, h2, h3, h4, h5⟩ := h
  exact ⟨h0, h1, h2, rkI_all h3, rkI_all h4, h5⟩

theorem br_at {s : ByteArray} {p : Nat} {b : Br} (hx : byB b) (hok : okB b = true) (h1 : (s.data.toList.drop p).take 2 = putL (b.p + b.e).toNat 2) (h2 : (s.data.toList.drop (p + 2)).take 6 = nb 6 b.a) : brC (brAt s p) = brC b := by
  obtain ⟨p0, p1, pm, e0, e1⟩ := okB_all hok
  exact br_back b hx hok (brAt s p) (beAt s p) ((s.data.toList.drop (p + 2)).take 6) rfl (by unfold beAt; rw [h1, beN_putL_fits _ _ (by omega)]; omega) h2

theorem in_back {s : ByteArray} {p : Nat} {x : Ins} {H C : List UInt8} (h : s.data.toList = H ++ (insL x ++ C)) (hH : H.length = p) (hx : byIns x) (hok : okIns x = true) : inC (inAt s p) = inC x := by
  obtain ⟨hf, hroot, hcost, ⟨b0, b1⟩, ⟨t0, t1⟩, hhop⟩ := okIns_all hok
  unfold insL at h
  rw [packL_two] at h
  have f0 : (s.data.toList.drop (p + 0)).take 1 = putL (byF x.f) 1 := seg (A := H) (X := putL (byF x.f) 1) (C := putL (x.root.p + x.root.e).toNat 2 ++ nb 6 x.root.a ++ putL x.cost.toNat 4 ++ putL (16 * x.br).toNat 1 ++ putL (16 * x.pt).toNat 1 ++ putL x.hop.toNat 1 ++ C) (by rw [h]; simp only [List.append_assoc]) (by simp only [List.length_append, putL_length, nb6_len, hH, Nat.add_zero]) (by first | exact putL_length _ _ | exact nb6_len _)
  have f1 : (s.data.toList.drop (p + 1)).take 2 = putL (x.root.p + x.root.e).toNat 2 := seg (A := H ++ putL (byF x.f) 1) (X := putL (x.root.p + x.root.e).toNat 2) (C := nb 6 x.root.a ++ putL x.cost.toNat 4 ++ putL (16 * x.br).toNat 1 ++ putL (16 * x.pt).toNat 1 ++ putL x.hop.toNat 1 ++ C) (by rw [h]; simp only [List.append_assoc]) (by simp only [List.length_append, putL_length, nb6_len, hH, Nat.add_zero]) (by first | exact putL_length _ _ | exact nb6_len _)
  have f2 : (s.data.toList.drop (p + 3)).take 6 = nb 6 x.root.a := seg (A := H ++ putL (byF x.f) 1 ++ putL (x.root.p + x.root.e).toNat 2) (X := nb 6 x.root.a) (C := putL x.cost.toNat 4 ++ putL (16 * x.br).toNat 1 ++ putL (16 * x.pt).toNat 1 ++ putL x.hop.toNat 1 ++ C) (by rw [h]; simp only [List.append_assoc]) (by simp only [List.length_append, putL_length, nb6_len, hH, Nat.add_zero]) (by first | exact putL_length _ _ | exact nb6_len _)
  have f3 : (s.data.toList.drop (p + 9)).take 4 = putL x.cost.toNat 4 := seg (A := H ++ putL (byF x.f) 1 ++ putL (x.root.p + x.root.e).toNat 2 ++ nb 6 x.root.a) (X := putL x.cost.toNat 4) (C := putL (16 * x.br).toNat 1 ++ putL (16 * x.pt).toNat 1 ++ putL x.hop.toNat 1 ++ C) (by rw [h]; simp only [List.append_assoc]) (by simp only [List.length_append, putL_length, nb6_len, hH, Nat.add_zero]) (by first | exact putL_length _ _ | exact nb6_len _)
  have f4 : (s.data.toList.drop (p + 13)).take 1 = putL (16 * x.br).toNat 1 := seg (A := H ++ putL (byF x.f) 1 ++ putL (x.root.p + x.root.e).toNat 2 ++ nb 6 x.root.a ++ putL x.cost.toNat 4) (X := putL (16 * x.br).toNat 1) (C := putL (16 * x.pt).toNat 1 ++ putL x.hop.toNat 1 ++ C) (by rw [h]; simp only [List.append_assoc]) (by simp only [List.length_append, putL_length, nb6_len, hH, Nat.add_zero]) (by first | exact putL_length _ _ | exact nb6_len _)
  have f5 : (s.data.toList.drop (p + 14)).take 1 = putL (16 * x.pt).toNat 1 := seg (A := H ++ putL (byF x.f) 1 ++ putL (x.root.p + x.root.e).toNat 2 ++ nb 6 x.root.a ++ putL x.cost.toNat 4 ++ putL (16 * x.br).toNat 1) (X := putL (16 * x.pt).toNat 1) (C := putL x.hop.toNat 1 ++ C) (by rw [h]; simp only [List.append_assoc]) (by simp only [List.length_append, putL_length, nb6_len, hH, Nat.add_zero]) (by first | exact putL_length _ _ | exact nb6_len _)
  have f6 : (s.data.toList.drop (p + 15)).take 1 = putL x.hop.toNat 1 := seg (A := H ++ putL (byF x.f) 1 ++ putL (x.root.p + x.root.e).toNat 2 ++ nb 6 x.root.a ++ putL x.cost.toNat 4 ++ putL (16 * x.br).toNat 1 ++ putL (16 * x.pt).toNat 1) (X := putL x.hop.toNat 1) (C := C) (by rw [h]; simp only [List.append_assoc]) (by simp only [List.length_append, putL_length, nb6_len, hH, Nat.add_zero]) (by first | exact putL_length _ _ | exact nb6_len _)
  have e4 : (numAt s (p + 13) 1 : Int) = 16 * x.br := by
    show ((beN ((s.data.toList.drop (p + 13)).take 1) : Nat) : Int) = _
    rw [f4, nat_i _ _ (by unfold fitI; rw [decide_eq_true (show 0 ≤ 16 * x.br by omega), decide_eq_true (show 16 * x.br < 256 ^ 1 by omega)]; rfl)]
  have e5 : (numAt s (p + 14) 1 : Int) = 16 * x.pt := by
    show ((beN ((s.data.toList.drop (p + 14)).take 1) : Nat) : Int) = _
    rw [f5, nat_i _ _ (by unfold fitI; rw [decide_eq_true (show 0 ≤ 16 * x.pt by omega), decide_eq_true (show 16 * x.pt < 256 ^ 1 by omega)]; rfl)]
  refine inC_congr _ _ ?_ (br_at hx hroot f1 f2) ?_ ?_ ?_ ?_
  · show ofF (beN ((s.data.toList.drop (p + 0)).take 1)) = x.f
    rw [f0, beN_putL_fits _ _ (by have := byF_lt x.f hf; simpa using this), ofF_by x.f hf]
  · show ((beN ((s.data.toList.drop (p + 9)).take 4) : Nat) : Int) = x.cost
    rw [f3, nat_i _ _ hcost]
  · show ((numAt s (p + 13) 1 / 16 : Nat) : Int) = x.br
    omega
  · show ((numAt s (p + 14) 1 / 16 : Nat) : Int) = x.pt
    omega
  · show ((beN ((s.data.toList.drop (p + 15)).take 1) : Nat) : Int) = x.hop
    rw [f6, nat_i _ _ hhop]

theorem inss_split (l : List Ins) (j : Nat) (h : j < l.length) : inssL l = inssL (l.take j) ++ (insL l[j] ++ inssL (l.drop (j + 1))) := by
  conv => lhs; rw [← List.take_append_drop j l, List.drop_eq_getElem_cons h]
  unfold inssL
  rw [List.flatMap_append, List.flatMap_cons]

/-- What is written is read. -/
theorem ms_back (m : Ms) (l : List Ins) (c : List UInt8) (s : ByteArray) (hok : okMs m l = true) (hx : byBp m.base ∧ byB m.br ∧ ∀ x ∈ l, byIns x) (hs : s.data.toList = writeM m l ++ c) :
    allE s = none ∧ (∀ v, msC (msAt s) v = msC m v) ∧ cntAt s = l.length ∧ ∀ j (h : j < l.length), inC (inAt s (102 + 16 * j)) = inC l[j] := by
  obtain ⟨hk, hrp, hname, htz, hrev, hdig, hcost, hbr, hhop, hlen, hall⟩ := okMs_all hok
  obtain ⟨hxb, hxr, hxl⟩ := hx
  have hrp' := hrp
  unfold okRp at hrp'
  rw [Bool.and_eq_true] at hrp'
  obtain ⟨hf, hbd⟩ := hrp'
  have hsz := len_of hs
  rw [List.length_append, writeM_len m l hname hdig] at hsz
  have hW := headM_len m l.length hname hdig
  have hdl : m.dig.data.toList.length = 16 := by rw [← hdig]; simp
  have hpl := padL_len m.name hname
  have hs1 : s.data.toList = headM m l.length ++ (inssL l ++ c) := by rw [hs]; unfold writeM; rw [List.append_assoc]
  have hs2 := hs1
  unfold headM at hs2
  rw [packL_two] at hs2
  have f0 : (s.data.toList.drop 0).take 4 = [0, 0, 3, 2] := seg (A := []) (X := [0, 0, 3, 2]) (C := bodyL m.base ++ [0] ++ putL (64 + 16 * l.length) 2 ++ [0] ++ padL m.name ++ putL m.rev.toNat 2 ++ m.dig.data.toList ++ putL m.cost.toNat 4 ++ putL (m.br.p + m.br.e).toNat 2 ++ nb 6 m.br.a ++ putL m.hop.toNat 1 ++ inssL l ++ c) (by rw [hs2]; simp only [List.append_assoc, List.nil_append]) (by simp only [List.length_append, putL_length, nb6_len, bodyL_len, hdl, hpl, List.length_cons, List.length_nil]) (by first | exact putL_length _ _ | exact nb6_len _ | exact bodyL_len _ | exact hdl | exact hpl | rfl)
  have f1 : (s.data.toList.drop 4).take 31 = bodyL m.base := seg (A := [0, 0, 3, 2]) (X := bodyL m.base) (C := [0] ++ putL (64 + 16 * l.length) 2 ++ [0] ++ padL m.name ++ putL m.rev.toNat 2 ++ m.dig.data.toList ++ putL m.cost.toNat 4 ++ putL (m.br.p + m.br.e).toNat 2 ++ nb 6 m.br.a ++ putL m.hop.toNat 1 ++ inssL l ++ c) (by rw [hs2]; simp only [List.append_assoc, List.nil_append]) (by simp only [List.length_append, putL_length, nb6_len, bodyL_len, hdl, hpl, List.length_cons, List.length_nil]) (by first | exact putL_length _ _ | exact nb6_len _ | exact bodyL_len _ | exact hdl | exact hpl | rfl)
  have f2 : (s.data.toList.drop 35).take 1 = [0] := seg (A := [0, 0, 3, 2] ++ bodyL m.base) (X := [0]) (C := putL (64 + 16 * l.length) 2 ++ [0] ++ padL m.name ++ putL m.rev.toNat 2 ++ m.dig.data.toList ++ putL m.cost.toNat 4 ++ putL (m.br.p + m.br.e).toNat 2 ++ nb 6 m.br.a ++ putL m.hop.toNat 1 ++ inssL l ++ c) (by rw [hs2]; simp only [List.append_assoc, List.nil_append]) (by simp only [List.length_append, putL_length, nb6_len, bodyL_len, hdl, hpl, List.length_cons, List.length_nil]) (by first | exact putL_length _ _ | exact nb6_len _ | exact bodyL_len _ | exact hdl | exact hpl | rfl)
  have f3 : (s.data.toList.drop 36).take 2 = putL (64 + 16 * l.length) 2 := seg (A := [0, 0, 3, 2] ++ bodyL m.base ++ [0]) (X := putL (64 + 16 * l.length) 2) (C := [0] ++ padL m.name ++ putL m.rev.toNat 2 ++ m.dig.data.toList ++ putL m.cost.toNat 4 ++ putL (m.br.p + m.br.e).toNat 2 ++ nb 6 m.br.a ++ putL m.hop.toNat 1 ++ inssL l ++ c) (by rw [hs2]; simp only [List.append_assoc, List.nil_append]) (by simp only [List.length_append, putL_length, nb6_len, bodyL_len, hdl, hpl, List.length_cons, List.length_nil]) (by first | exact putL_length _ _ | exact nb6_len _ | exact bodyL_len _ | exact hdl | exact hpl | rfl)
  have f4 : (s.data.toList.drop 38).take 1 = [0] := seg (A := [0, 0, 3, 2] ++ bodyL m.base ++ [0] ++ putL (64 + 16 * l.length) 2) (X := [0]) (C := padL m.name ++ putL m.rev.toNat 2 ++ m.dig.data.toList ++ putL m.cost.toNat 4 ++ putL (m.br.p + m.br.e).toNat 2 ++ nb 6 m.br.a ++ putL m.hop.toNat 1 ++ inssL l ++ c) (by rw [hs2]; simp only [List.append_assoc, List.nil_append]) (by simp only [List.length_append, putL_length, nb6_len, bodyL_len, hdl, hpl, List.length_cons, List.length_nil]) (by first | exact putL_length _ _ | exact nb6_len _ | exact bodyL_len _ | exact hdl | exact hpl | rfl)
  have f5 : (s.data.toList.drop 39).take 32 = padL m.name := seg (A := [0, 0, 3, 2] ++ bodyL m.base ++ [0] ++ putL (64 + 16 * l.length) 2 ++ [0]) (X := padL m.name) (C := putL m.rev.toNat 2 ++ m.dig.data.toList ++ putL m.cost.toNat 4 ++ putL (m.br.p + m.br.e).toNat 2 ++ nb 6 m.br.a ++ putL m.hop.toNat 1 ++ inssL l ++ c) (by rw [hs2]; simp only [List.append_assoc, List.nil_append]) (by simp only [List.length_append, putL_length, nb6_len, bodyL_len, hdl, hpl, List.length_cons, List.length_nil]) (by first | exact putL_length _ _ | exact nb6_len _ | exact bodyL_len _ | exact hdl | exact hpl | rfl)
  have f6 : (s.data.toList.drop 71).take 2 = putL m.rev.toNat 2 := seg (A := [0, 0, 3, 2] ++ bodyL m.base ++ [0] ++ putL (64 + 16 * l.length) 2 ++ [0] ++ padL m.name) (X := putL m.rev.toNat 2) (C := m.dig.data.toList ++ putL m.cost.toNat 4 ++ putL (m.br.p + m.br.e).toNat 2 ++ nb 6 m.br.a ++ putL m.hop.toNat 1 ++ inssL l ++ c) (by rw [hs2]; simp only [List.append_assoc, List.nil_append]) (by simp only [List.length_append, putL_length, nb6_len, bodyL_len, hdl, hpl, List.length_cons, List.length_nil]) (by first | exact putL_length _ _ | exact nb6_len _ | exact bodyL_len _ | exact hdl | exact hpl | rfl)
  have f7 : (s.data.toList.drop 73).take 16 = m.dig.data.toList := seg (A := [0, 0, 3, 2] ++ bodyL m.base ++ [0] ++ putL (64 + 16 * l.length) 2 ++ [0] ++ padL m.name ++ putL m.rev.toNat 2) (X := m.dig.data.toList) (C := putL m.cost.toNat 4 ++ putL (m.br.p + m.br.e).toNat 2 ++ nb 6 m.br.a ++ putL m.hop.toNat 1 ++ inssL l ++ c) (by rw [hs2]; simp only [List.append_assoc, List.nil_append]) (by simp only [List.length_append, putL_length, nb6_len, bodyL_len, hdl, hpl, List.length_cons, List.length_nil]) (by first | exact putL_length _ _ | exact nb6_len _ | exact bodyL_len _ | exact hdl | exact hpl | rfl)
  have f8 : (s.data.toList.drop 89).take 4 = putL m.cost.toNat 4 := seg (A := [0, 0, 3, 2] ++ bodyL m.base ++ [0] ++ putL (64 + 16 * l.length) 2 ++ [0] ++ padL m.name ++ putL m.rev.toNat 2 ++ m.dig.data.toList) (X := putL m.cost.toNat 4) (C := putL (m.br.p + m.br.e).toNat 2 ++ nb 6 m.br.a ++ putL m.hop.toNat 1 ++ inssL l ++ c) (by rw [hs2]; simp only [List.append_assoc, List.nil_append]) (by simp only [List.length_append, putL_length, nb6_len, bodyL_len, hdl, hpl, List.length_cons, List.length_nil]) (by first | exact putL_length _ _ | exact nb6_len _ | exact bodyL_len _ | exact hdl | exact hpl | rfl)
  have f9 : (s.data.toList.drop 93).take 2 = putL (m.br.p + m.br.e).toNat 2 := seg (A := [0, 0, 3, 2] ++ bodyL m.base ++ [0] ++ putL (64 + 16 * l.length) 2 ++ [0] ++ padL m.name ++ putL m.rev.toNat 2 ++ m.dig.data.toList ++ putL m.cost.toNat 4) (X := putL (m.br.p + m.br.e).toNat 2) (C := nb 6 m.br.a ++ putL m.hop.toNat 1 ++ inssL l ++ c) (by rw [hs2]; simp only [List.append_assoc, List.nil_append]) (by simp only [List.length_append, putL_length, nb6_len, bodyL_len, hdl, hpl, List.length_cons, List.length_nil]) (by first | exact putL_length _ _ | exact nb6_len _ | exact bodyL_len _ | exact hdl | exact hpl | rfl)
  have f10 : (s.data.toList.drop 95).take 6 = nb 6 m.br.a := seg (A := [0, 0, 3, 2] ++ bodyL m.base ++ [0] ++ putL (64 + 16 * l.length) 2 ++ [0] ++ padL m.name ++ putL m.rev.toNat 2 ++ m.dig.data.toList ++ putL m.cost.toNat 4 ++ putL (m.br.p + m.br.e).toNat 2) (X := nb 6 m.br.a) (C := putL m.hop.toNat 1 ++ inssL l ++ c) (by rw [hs2]; simp only [List.append_assoc, List.nil_append]) (by simp only [List.length_append, putL_length, nb6_len, bodyL_len, hdl, hpl, List.length_cons, List.length_nil]) (by first | exact putL_length _ _ | exact nb6_len _ | exact bodyL_len _ | exact hdl | exact hpl | rfl)
  have f11 : (s.data.toList.drop 101).take 1 = putL m.hop.toNat 1 := seg (A := [0, 0, 3, 2] ++ bodyL m.base ++ [0] ++ putL (64 + 16 * l.length) 2 ++ [0] ++ padL m.name ++ putL m.rev.toNat 2 ++ m.dig.data.toList ++ putL m.cost.toNat 4 ++ putL (m.br.p + m.br.e).toNat 2 ++ nb 6 m.br.a) (X := putL m.hop.toNat 1) (C := inssL l ++ c) (by rw [hs2]; simp only [List.append_assoc, List.nil_append]) (by simp only [List.length_append, putL_length, nb6_len, bodyL_len, hdl, hpl, List.length_cons, List.length_nil]) (by first | exact putL_length _ _ | exact nb6_len _ | exact bodyL_len _ | exact hdl | exact hpl | rfl)
  have hbody := inL_back (inL_of (b := m.base) (l := s.data.toList) (H := [0, 0, 3, 2]) (C := [0] ++ (putL (64 + 16 * l.length) 2 ++ ([0] ++ (padL m.name ++ (putL m.rev.toNat 2 ++ (m.dig.data.toList ++ (putL m.cost.toNat 4 ++ (putL (m.br.p + m.br.e).toNat 2 ++ nb 6 m.br.a ++ putL m.hop.toNat 1))))))) ++ (inssL l ++ c)) (by rw [hs2]; simp only [List.append_assoc]) rfl) hxb hf hbd 3 hk
  obtain ⟨hbc, hpz⟩ := hbody
  replace hpz : pzAt s 25 = false := hpz
  have hn : numAt s 36 2 = 64 + 16 * l.length := by
    unfold numAt
    rw [f3, beN_putL_fits _ _ (by omega)]
  have hcnt : cntAt s = l.length := by unfold cntAt; rw [hn]; omega
  have hE : mE s = none := by
    unfold mE
    rw [if_neg (by omega), if_neg (by rw [show hdAt s = [0, 0, 3, 2] from f0]; simp), hpz, bdE_none _ (by omega), if_neg (by simp), if_neg (by omega), if_neg (by rw [show bsAt s 35 1 = [0] from f2]; simp), if_neg (by omega),
      if_neg (by rw [hn]; unfold okLen; rw [decide_eq_true (show 64 ≤ 64 + 16 * l.length by omega), decide_eq_true (show 64 + 16 * l.length ≤ 1088 by omega), decide_eq_true (show (64 + 16 * l.length) % 16 = 0 by omega)]; simp),
      if_neg (by omega), if_neg (by rw [show bsAt s 38 1 = [0] from f4]; simp), if_neg (by omega), if_neg (by omega), if_neg (by omega), if_neg (by omega), if_neg (by omega), if_neg (by omega), if_neg (by omega)]
  refine ⟨?_, fun v => msC_congr _ _ v hbc ?_ ?_ ?_ ?_ (br_at hxr hbr f9 f10) ?_, hcnt, fun j hj => ?_⟩
  · unfold allE
    rw [hE, hcnt, insE_none _ _ _ (by omega)]
    rfl
  · show (⟨(Lib.trimRightB (bsAt s 39 32) 0).toArray⟩ : ByteArray) = m.name
    rw [show bsAt s 39 32 = padL m.name from f5]
    unfold padL
    rw [trim_pad _ _ htz]
  · show ((numAt s 71 2 : Nat) : Int) = m.rev
    unfold numAt
    rw [f6, nat_i _ _ hrev]
  · show (⟨(bsAt s 73 16).toArray⟩ : ByteArray) = m.dig
    rw [show bsAt s 73 16 = m.dig.data.toList from f7]
  · show ((numAt s 89 4 : Nat) : Int) = m.cost
    unfold numAt
    rw [f8, nat_i _ _ hcost]
  · show ((numAt s 101 1 : Nat) : Int) = m.hop
    unfold numAt
    rw [f11, nat_i _ _ hhop]
  · have hmem : l[j] ∈ l := List.getElem_mem hj
    refine in_back (H := headM m l.length ++ inssL (l.take j)) (C := inssL (l.drop (j + 1)) ++ c) ?_ ?_ (hxl _ hmem) (List.all_eq_true.1 hall _ hmem)
    · rw [hs1, inss_split l j hj]
      simp only [List.append_assoc]
    · rw [List.length_append, hW, inssL_len, List.length_take, Nat.min_eq_left (by omega)]

theorem rk_at (s : ByteArray) (p : Nat) : rkI ((numAt s p 1 / 16 : Nat) : Int) = true := by
  have h := numAt_one s p
  unfold rkI
  rw [decide_eq_true (Int.natCast_nonneg _), decide_eq_true (show ((numAt s p 1 / 16 : Nat) : Int) ≤ 15 by omega)]
  rfl

theorem okIns_at (s : ByteArray) (p : Nat) : okIns (inAt s p) = true := by
  unfold okIns
  show (okF (ofF (numAt s p 1)) && (okB (brAt s (p + 1)) && (fitI 4 ((numAt s (p + 9) 4 : Nat) : Int) && (rkI ((numAt s (p + 13) 1 / 16 : Nat) : Int) && (rkI ((numAt s (p + 14) 1 / 16 : Nat) : Int) && fitI 1 ((numAt s (p + 15) 1 : Nat) : Int)))))) = true
  rw [okF_of, okB_at, fit_at, rk_at, rk_at, fit_at]
  rfl

/-- What is read may be. -/
theorem ms_right (s : ByteArray) (h : allE s = none) (h1 : okLen (numAt s 36 2) = true) (h2 : 102 + 16 * cntAt s ≤ s.size) :
    okMs (msAt s) (insAt s 102 (cntAt s)) = true ∧ (byBp (msAt s).base ∧ byB (msAt s).br ∧ ∀ x ∈ insAt s 102 (cntAt s), byIns x) ∧ (writeM (msAt s) (insAt s 102 (cntAt s))).length ≤ s.size ∧ (msAt s).name.size ≤ 32 ∧ (msAt s).dig.size = 16 := by
  have hm : mE s = none := by
    unfold allE at h
    by_cases q : (mE s).isSome = true
    · rw [if_pos q] at h
      exact h
    · simpa using q
  have hbd : bdE s.size 4 (pzAt s 25) = none := by
    unfold mE at hm
    by_cases q0 : s.size < 4
    · rw [if_pos q0] at hm; cases hm
    rw [if_neg q0] at hm
    by_cases q1 : ¬ hdAt s = [0, 0, 3, 2]
    · rw [if_pos q1] at hm; cases hm
    rw [if_neg q1] at hm
    by_cases q2 : (bdE s.size 4 (pzAt s 25)).isSome = true
    · rw [if_pos q2] at hm; exact hm
    · simpa using q2
  obtain ⟨-, hpz⟩ := bdE_full hbd
  have hdig : (msAt s).dig.size = 16 := by
    show ((bsAt s 73 16).toArray).size = 16
    unfold bsAt
    rw [List.size_toArray, List.length_take, List.length_drop]
    have : s.data.toList.length = s.size := by simp
    omega
  have hname : (msAt s).name.size ≤ 32 := by
    show ((Lib.trimRightB (bsAt s 39 32) 0).toArray).size ≤ 32
    rw [List.size_toArray]
    have h3 := trim_len (bsAt s 39 32)
    have h4 : (bsAt s 39 32).length ≤ 32 := List.length_take_le 32 _
    omega
  have htz : tz (msAt s).name = false := trim_last (bsAt s 39 32)
  have hc : cntAt s ≤ 64 := by
    unfold okLen at h1
    simp only [Bool.and_eq_true, decide_eq_true_eq] at h1
    unfold cntAt
    omega
  refine ⟨?_, ⟨by_at s 4 3, fun i => byX_lt _ i, fun x hx => ?_⟩, ?_, hname, hdig⟩
  · unfold okMs okMs0 okRp
    rw [insAt_len, decide_eq_true hc, decide_eq_true hname, htz, decide_eq_true hdig]
    show (((3 : Int) == 3) && ((okF (ofF (numAt s 4 1)) && okBd (bpAt s 4 3)) && (true && (!false && ((fitI 2 ((numAt s 71 2 : Nat) : Int) && (true && (fitI 4 ((numAt s 89 4 : Nat) : Int) && (okB (brAt s 93) && fitI 1 ((numAt s 101 1 : Nat) : Int))))) && (true && (insAt s 102 (cntAt s)).all okIns)))))) = true
    rw [okF_of, okBd_at s 4 3 hpz, fit_at, fit_at, fit_at, okB_at]
    have ha : (insAt s 102 (cntAt s)).all okIns = true := by
      rw [List.all_eq_true]
      intro x hx
      unfold insAt at hx
      obtain ⟨j, _, rfl⟩ := List.mem_map.1 hx
      exact okIns_at s _
    rw [ha]
    rfl
  · unfold insAt at hx
    obtain ⟨j, _, rfl⟩ := List.mem_map.1 hx
    exact fun i => byX_lt _ i
  · rw [writeM_len _ _ hname hdig, insAt_len]
    exact h2

end Go.Proofs.YtkfhcblgfndoaaaDoor
