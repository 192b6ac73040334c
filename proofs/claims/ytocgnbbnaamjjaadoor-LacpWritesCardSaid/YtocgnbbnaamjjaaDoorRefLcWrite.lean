/- The reference writes what both sides know. -/
import Derived.Test.YtocgnbbnaamjjaaDoorRefLc
import Derived.Test.YtocgnbbnaamjjaaDoorBe2
import Derived.Laws.Concat
namespace Go.Proofs.YtocgnbbnaamjjaaDoor
open Go.RowKit
attribute [local go_sem ↓] Go.wp_at_zero Go.wp_at_succ
set_option linter.unusedSimpArgs false
set_option linter.unusedVariables false
set_option maxRecDepth 100000

theorem refLcWrite_no (l : Lc) (h : okLc l = false) (w : World) :
    Calls Tryd.prog 9 #[.agg (lcC l)] w fun e w' => e = .returned (.tuple #[.string ⟨#[]⟩, .int .i64 1]) ∧ Below w.heap.size w w' := by
  have HA := Blk.new w 27 (lcC l)
  have B0 : Below w.heap.size w (w.alloc (.cells (lcC l) 27)) := (Below.refl _ _).alloc (Nat.le_refl _) _
  have HR := Lib.hid (fun W => refLcRight_any l W)
  rw [h] at HR
  go_enter Tryd.func9, Tryd.ntmps9
  go_upto_region 1 with (fail)
  generalize (w.alloc (.cells (lcC l) 27)) = w1 at *
  go_wp2_with (refine load_blk (k := 0) 27 (lcC l) (by rfl) rfl rfl HA (by kernel_rfl) (by kernel_rfl) rfl ?_)
  refine (HR.out _).mono ?_
  rintro e w2 ⟨rfl, k2⟩
  go_wp2
  go_ret2
  exact ⟨rfl, B0.trans (k2.mono B0.size)⟩

theorem be_fit (v : Int) (n : Nat) (h8 : n ≤ 7) (h : fitI n v = true) (w : World) :
    Calls Tryd.prog 24 #[.int .i64 v, .int .i64 n] w fun e w' => e = .returned (.string ⟨(putL v.toNat n).toArray⟩) ∧ Below w.heap.size w w' := by
  obtain ⟨h0, h1⟩ := fitI_all h
  have h2 : (256 : Int) ^ n ≤ 256 ^ 7 := by
    have h3 : 256 ^ n ≤ 256 ^ 7 := Nat.pow_le_pow_right (by decide) h8
    have e1 : ((256 ^ n : Nat) : Int) = (256 : Int) ^ n := by simp
    omega
  exact be_any v n w h0 (by omega) (by omega)

theorem pad_list (P : List UInt8) (j : Nat) (hP : P.length = 46 ∨ P.length = 16) (hj : j ≤ 100) : ∀ W, (Op.stringOp .add ⟨(P ++ List.replicate j 0).toArray⟩ ⟨#[0]⟩).run Tryd.prog W = .ok (.string ⟨(P ++ List.replicate (j + 1) 0).toArray⟩) W := fun W => by
  have q := run_string_add_lists (P := Tryd.prog) W (P ++ List.replicate j 0) [0] (by rw [List.length_append, List.length_replicate]; omega) (by decide)
  rw [List.append_assoc, show List.replicate j (0 : UInt8) ++ [0] = List.replicate (j + 1) 0 from (List.replicate_succ' ..).symm] at q
  exact q

set_option maxHeartbeats 12800000 in
theorem refLcWrite_yes (l : Lc) (h : okLc l = true) (hb : byLc l) (w : World) :
    Calls Tryd.prog 9 #[.agg (lcC l)] w fun e w' => e = .returned (.tuple #[.string ⟨(lcL l).toArray⟩, .int .i64 0]) ∧ Below w.heap.size w w' := by
  obtain ⟨i0, hi, hz0, hz1, hz2⟩ := info_parts Tryd.pyParts
  obtain ⟨f0, f1, f2⟩ := okLc_all h
  have HA := Blk.new w 27 (lcC l)
  have B0 : Below w.heap.size w (w.alloc (.cells (lcC l) 27)) := (Below.refl _ _).alloc (Nat.le_refl _) _
  have HR := Lib.hid (fun W => refLcRight_any l W)
  rw [h] at HR
  have HE1 : Hid (∀ W, Calls Tryd.prog 24 #[.int .i64 1, .int .i64 1] W fun e w' => e = .returned (.string ⟨#[1]⟩) ∧ Below W.heap.size W w') := fun W => be_fit 1 1 (by decide) rfl W
  have HE2 : Hid (∀ W, Calls Tryd.prog 24 #[.int .i64 2, .int .i64 1] W fun e w' => e = .returned (.string ⟨#[2]⟩) ∧ Below W.heap.size W w') := fun W => be_fit 2 1 (by decide) rfl W
  have HE20 : Hid (∀ W, Calls Tryd.prog 24 #[.int .i64 20, .int .i64 1] W fun e w' => e = .returned (.string ⟨#[20]⟩) ∧ Below W.heap.size W w') := fun W => be_fit 20 1 (by decide) rfl W
  have HE0 : Hid (∀ W, Calls Tryd.prog 24 #[.int .i64 0, .int .i64 3] W fun e w' => e = .returned (.string ⟨#[0, 0, 0]⟩) ∧ Below W.heap.size W w') := fun W => be_fit 0 3 (by decide) rfl W
  have HED : Hid (∀ W, Calls Tryd.prog 24 #[.int .i64 l.de, .int .i64 2] W fun e w' => e = .returned (.string ⟨(putL l.de.toNat 2).toArray⟩) ∧ Below W.heap.size W w') := fun W => be_fit l.de 2 (by decide) f2 W
  have hD := putL_length l.de.toNat 2
  obtain ⟨a0, a1, a2, a3, a4⟩ := okPy_all f0
  have HBa0 : Hid (∀ W, Calls Tryd.prog 24 #[.int .i64 l.a.sp, .int .i64 2] W fun e w' => e = .returned (.string ⟨(putL l.a.sp.toNat 2).toArray⟩) ∧ Below W.heap.size W w') := fun W => be_fit l.a.sp 2 (by decide) a0 W
  have ha0 := putL_length l.a.sp.toNat 2
  have HBa1 : Hid (∀ W, Calls Tryd.prog 24 #[.int .i64 l.a.ke, .int .i64 2] W fun e w' => e = .returned (.string ⟨(putL l.a.ke.toNat 2).toArray⟩) ∧ Below W.heap.size W w') := fun W => be_fit l.a.ke 2 (by decide) a1 W
  have ha1 := putL_length l.a.ke.toNat 2
  have HBa2 : Hid (∀ W, Calls Tryd.prog 24 #[.int .i64 l.a.pp, .int .i64 2] W fun e w' => e = .returned (.string ⟨(putL l.a.pp.toNat 2).toArray⟩) ∧ Below W.heap.size W w') := fun W => be_fit l.a.pp 2 (by decide) a2 W
  have ha2 := putL_length l.a.pp.toNat 2
  have HBa3 : Hid (∀ W, Calls Tryd.prog 24 #[.int .i64 l.a.po, .int .i64 2] W fun e w' => e = .returned (.string ⟨(putL l.a.po.toNat 2).toArray⟩) ∧ Below W.heap.size W w') := fun W => be_fit l.a.po 2 (by decide) a3 W
  have ha3 := putL_length l.a.po.toNat 2
  have HBa4 : Hid (∀ W, Calls Tryd.prog 24 #[.int .i64 l.a.st, .int .i64 1] W fun e w' => e = .returned (.string ⟨(putL l.a.st.toNat 1).toArray⟩) ∧ Below W.heap.size W w') := fun W => be_fit l.a.st 1 (by decide) a4 W
  have ha4 := putL_length l.a.st.toNat 1
  have haA := nb_len 6 l.a.sy
  have HYa : Hid (pyL l.a = putL l.a.sp.toNat 2 ++ (nb 6 l.a.sy ++ (putL l.a.ke.toNat 2 ++ (putL l.a.pp.toNat 2 ++ (putL l.a.po.toNat 2 ++ (putL l.a.st.toNat 1 ++ [0, 0, 0])))))) := rfl
  generalize putL l.a.sp.toNat 2 = La0 at *
  generalize putL l.a.ke.toNat 2 = La1 at *
  generalize putL l.a.pp.toNat 2 = La2 at *
  generalize putL l.a.po.toNat 2 = La3 at *
  generalize putL l.a.st.toNat 1 = La4 at *
  obtain ⟨LaA, hLaA⟩ : ∃ z : List UInt8, z = nb 6 l.a.sy := ⟨_, rfl⟩
  rw [← hLaA] at HYa haA
  have HLaA := Lib.hid hLaA
  clear hLaA a0 a1 a2 a3 a4
  obtain ⟨p0, p1, p2, p3, p4⟩ := okPy_all f1
  have HBp0 : Hid (∀ W, Calls Tryd.prog 24 #[.int .i64 l.p.sp, .int .i64 2] W fun e w' => e = .returned (.string ⟨(putL l.p.sp.toNat 2).toArray⟩) ∧ Below W.heap.size W w') := fun W => be_fit l.p.sp 2 (by decide) p0 W
  have hp0 := putL_length l.p.sp.toNat 2
  have HBp1 : Hid (∀ W, Calls Tryd.prog 24 #[.int .i64 l.p.ke, .int .i64 2] W fun e w' => e = .returned (.string ⟨(putL l.p.ke.toNat 2).toArray⟩) ∧ Below W.heap.size W w') := fun W => be_fit l.p.ke 2 (by decide) p1 W
  have hp1 := putL_length l.p.ke.toNat 2
  have HBp2 : Hid (∀ W, Calls Tryd.prog 24 #[.int .i64 l.p.pp, .int .i64 2] W fun e w' => e = .returned (.string ⟨(putL l.p.pp.toNat 2).toArray⟩) ∧ Below W.heap.size W w') := fun W => be_fit l.p.pp 2 (by decide) p2 W
  have hp2 := putL_length l.p.pp.toNat 2
  have HBp3 : Hid (∀ W, Calls Tryd.prog 24 #[.int .i64 l.p.po, .int .i64 2] W fun e w' => e = .returned (.string ⟨(putL l.p.po.toNat 2).toArray⟩) ∧ Below W.heap.size W w') := fun W => be_fit l.p.po 2 (by decide) p3 W
  have hp3 := putL_length l.p.po.toNat 2
  have HBp4 : Hid (∀ W, Calls Tryd.prog 24 #[.int .i64 l.p.st, .int .i64 1] W fun e w' => e = .returned (.string ⟨(putL l.p.st.toNat 1).toArray⟩) ∧ Below W.heap.size W w') := fun W => be_fit l.p.st 1 (by decide) p4 W
  have hp4 := putL_length l.p.st.toNat 1
  have hpA := nb_len 6 l.p.sy
  have HYp : Hid (pyL l.p = putL l.p.sp.toNat 2 ++ (nb 6 l.p.sy ++ (putL l.p.ke.toNat 2 ++ (putL l.p.pp.toNat 2 ++ (putL l.p.po.toNat 2 ++ (putL l.p.st.toNat 1 ++ [0, 0, 0])))))) := rfl
  generalize putL l.p.sp.toNat 2 = Lp0 at *
  generalize putL l.p.ke.toNat 2 = Lp1 at *
  generalize putL l.p.pp.toNat 2 = Lp2 at *
  generalize putL l.p.po.toNat 2 = Lp3 at *
  generalize putL l.p.st.toNat 1 = Lp4 at *
  obtain ⟨LpA, hLpA⟩ : ∃ z : List UInt8, z = nb 6 l.p.sy := ⟨_, rfl⟩
  rw [← hLpA] at HYp hpA
  have HLpA := Lib.hid hLpA
  clear hLpA p0 p1 p2 p3 p4
  have HW : Hid (lcL l = [1, 1] ++ (([1, 20] ++ pyL l.a) ++ (([2, 20] ++ pyL l.p) ++ (([3, 16] ++ putL l.de.toNat 2) ++ List.replicate 64 0)))) := by
    show _ = _
    simp only [lcL, List.append_assoc]
    rfl
  generalize putL l.de.toNat 2 = LD at *
  generalize lcL l = LL at *
  obtain ⟨ya1, hya1⟩ : ∃ z : List UInt8, z = [1] ++ [20] := ⟨_, rfl⟩
  have lya1 : ya1.length = 2 := by rw [hya1, List.length_append] <;> (try simp only [List.length_cons, List.length_nil]) <;> omega
  have pya1 : ∀ W, (Op.stringOp .add ⟨#[1]⟩ ⟨#[20]⟩).run Tryd.prog W = .ok (.string ⟨ya1.toArray⟩) W := fun W => by rw [hya1]; exact run_string_add_lists W [1] [20] (by (try simp only [List.length_cons, List.length_nil]) <;> omega) (by (try simp only [List.length_cons, List.length_nil]) <;> omega)
  obtain ⟨ya2, hya2⟩ : ∃ z : List UInt8, z = ya1 ++ La0 := ⟨_, rfl⟩
  have lya2 : ya2.length = 4 := by rw [hya2, List.length_append] <;> (try simp only [List.length_cons, List.length_nil]) <;> omega
  have pya2 : ∀ W, (Op.stringOp .add ⟨ya1.toArray⟩ ⟨La0.toArray⟩).run Tryd.prog W = .ok (.string ⟨ya2.toArray⟩) W := fun W => by rw [hya2]; exact run_string_add_lists W ya1 La0 (by (try simp only [List.length_cons, List.length_nil]) <;> omega) (by (try simp only [List.length_cons, List.length_nil]) <;> omega)
  obtain ⟨ya3, hya3⟩ : ∃ z : List UInt8, z = ya2 ++ LaA := ⟨_, rfl⟩
  have lya3 : ya3.length = 10 := by rw [hya3, List.length_append] <;> (try simp only [List.length_cons, List.length_nil]) <;> omega
  have pya3 : ∀ W, (Op.stringOp .add ⟨ya2.toArray⟩ ⟨LaA.toArray⟩).run Tryd.prog W = .ok (.string ⟨ya3.toArray⟩) W := fun W => by rw [hya3]; exact run_string_add_lists W ya2 LaA (by (try simp only [List.length_cons, List.length_nil]) <;> omega) (by (try simp only [List.length_cons, List.length_nil]) <;> omega)
  obtain ⟨ya4, hya4⟩ : ∃ z : List UInt8, z = ya3 ++ La1 := ⟨_, rfl⟩
  have lya4 : ya4.length = 12 := by rw [hya4, List.length_append] <;> (try simp only [List.length_cons, List.length_nil]) <;> omega
  have pya4 : ∀ W, (Op.stringOp .add ⟨ya3.toArray⟩ ⟨La1.toArray⟩).run Tryd.prog W = .ok (.string ⟨ya4.toArray⟩) W := fun W => by rw [hya4]; exact run_string_add_lists W ya3 La1 (by (try simp only [List.length_cons, List.length_nil]) <;> omega) (by (try simp only [List.length_cons, List.length_nil]) <;> omega)
  obtain ⟨ya5, hya5⟩ : ∃ z : List UInt8, z = ya4 ++ La2 := ⟨_, rfl⟩
  have lya5 : ya5.length = 14 := by rw [hya5, List.length_append] <;> (try simp only [List.length_cons, List.length_nil]) <;> omega
  have pya5 : ∀ W, (Op.stringOp .add ⟨ya4.toArray⟩ ⟨La2.toArray⟩).run Tryd.prog W = .ok (.string ⟨ya5.toArray⟩) W := fun W => by rw [hya5]; exact run_string_add_lists W ya4 La2 (by (try simp only [List.length_cons, List.length_nil]) <;> omega) (by (try simp only [List.length_cons, List.length_nil]) <;> omega)
  obtain ⟨ya6, hya6⟩ : ∃ z : List UInt8, z = ya5 ++ La3 := ⟨_, rfl⟩
  have lya6 : ya6.length = 16 := by rw [hya6, List.length_append] <;> (try simp only [List.length_cons, List.length_nil]) <;> omega
  have pya6 : ∀ W, (Op.stringOp .add ⟨ya5.toArray⟩ ⟨La3.toArray⟩).run Tryd.prog W = .ok (.string ⟨ya6.toArray⟩) W := fun W => by rw [hya6]; exact run_string_add_lists W ya5 La3 (by (try simp only [List.length_cons, List.length_nil]) <;> omega) (by (try simp only [List.length_cons, List.length_nil]) <;> omega)
  obtain ⟨ya7, hya7⟩ : ∃ z : List UInt8, z = ya6 ++ La4 := ⟨_, rfl⟩
  have lya7 : ya7.length = 17 := by rw [hya7, List.length_append] <;> (try simp only [List.length_cons, List.length_nil]) <;> omega
  have pya7 : ∀ W, (Op.stringOp .add ⟨ya6.toArray⟩ ⟨La4.toArray⟩).run Tryd.prog W = .ok (.string ⟨ya7.toArray⟩) W := fun W => by rw [hya7]; exact run_string_add_lists W ya6 La4 (by (try simp only [List.length_cons, List.length_nil]) <;> omega) (by (try simp only [List.length_cons, List.length_nil]) <;> omega)
  obtain ⟨ya8, hya8⟩ : ∃ z : List UInt8, z = ya7 ++ [0, 0, 0] := ⟨_, rfl⟩
  have lya8 : ya8.length = 20 := by rw [hya8, List.length_append] <;> (try simp only [List.length_cons, List.length_nil]) <;> omega
  have pya8 : ∀ W, (Op.stringOp .add ⟨ya7.toArray⟩ ⟨#[0, 0, 0]⟩).run Tryd.prog W = .ok (.string ⟨ya8.toArray⟩) W := fun W => by rw [hya8]; exact run_string_add_lists W ya7 [0, 0, 0] (by (try simp only [List.length_cons, List.length_nil]) <;> omega) (by (try simp only [List.length_cons, List.length_nil]) <;> omega)
  obtain ⟨S1, hS1⟩ : ∃ z : List UInt8, z = [1, 1] ++ ya8 := ⟨_, rfl⟩
  have lS1 : S1.length = 22 := by rw [hS1, List.length_append] <;> (try simp only [List.length_cons, List.length_nil]) <;> omega
  have pS1 : ∀ W, (Op.stringOp .add ⟨#[1, 1]⟩ ⟨ya8.toArray⟩).run Tryd.prog W = .ok (.string ⟨S1.toArray⟩) W := fun W => by rw [hS1]; exact run_string_add_lists W [1, 1] ya8 (by (try simp only [List.length_cons, List.length_nil]) <;> omega) (by (try simp only [List.length_cons, List.length_nil]) <;> omega)
  have ea : [1, 20] ++ pyL l.a = ya8 := by rw [HYa.out, hya8, hya7, hya6, hya5, hya4, hya3, hya2, hya1]; simp only [List.append_assoc, List.cons_append, List.nil_append]
  obtain ⟨yp1, hyp1⟩ : ∃ z : List UInt8, z = [2] ++ [20] := ⟨_, rfl⟩
  have lyp1 : yp1.length = 2 := by rw [hyp1, List.length_append] <;> (try simp only [List.length_cons, List.length_nil]) <;> omega
  have pyp1 : ∀ W, (Op.stringOp .add ⟨#[2]⟩ ⟨#[20]⟩).run Tryd.prog W = .ok (.string ⟨yp1.toArray⟩) W := fun W => by rw [hyp1]; exact run_string_add_lists W [2] [20] (by (try simp only [List.length_cons, List.length_nil]) <;> omega) (by (try simp only [List.length_cons, List.length_nil]) <;> omega)
  obtain ⟨yp2, hyp2⟩ : ∃ z : List UInt8, z = yp1 ++ Lp0 := ⟨_, rfl⟩
  have lyp2 : yp2.length = 4 := by rw [hyp2, List.length_append] <;> (try simp only [List.length_cons, List.length_nil]) <;> omega
  have pyp2 : ∀ W, (Op.stringOp .add ⟨yp1.toArray⟩ ⟨Lp0.toArray⟩).run Tryd.prog W = .ok (.string ⟨yp2.toArray⟩) W := fun W => by rw [hyp2]; exact run_string_add_lists W yp1 Lp0 (by (try simp only [List.length_cons, List.length_nil]) <;> omega) (by (try simp only [List.length_cons, List.length_nil]) <;> omega)
  obtain ⟨yp3, hyp3⟩ : ∃ z : List UInt8, z = yp2 ++ LpA := ⟨_, rfl⟩
  have lyp3 : yp3.length = 10 := by rw [hyp3, List.length_append] <;> (try simp only [List.length_cons, List.length_nil]) <;> omega
  have pyp3 : ∀ W, (Op.stringOp .add ⟨yp2.toArray⟩ ⟨LpA.toArray⟩).run Tryd.prog W = .ok (.string ⟨yp3.toArray⟩) W := fun W => by rw [hyp3]; exact run_string_add_lists W yp2 LpA (by (try simp only [List.length_cons, List.length_nil]) <;> omega) (by (try simp only [List.length_cons, List.length_nil]) <;> omega)
  obtain ⟨yp4, hyp4⟩ : ∃ z : List UInt8, z = yp3 ++ Lp1 := ⟨_, rfl⟩
  have lyp4 : yp4.length = 12 := by rw [hyp4, List.length_append] <;> (try simp only [List.length_cons, List.length_nil]) <;> omega
  have pyp4 : ∀ W, (Op.stringOp .add ⟨yp3.toArray⟩ ⟨Lp1.toArray⟩).run Tryd.prog W = .ok (.string ⟨yp4.toArray⟩) W := fun W => by rw [hyp4]; exact run_string_add_lists W yp3 Lp1 (by (try simp only [List.length_cons, List.length_nil]) <;> omega) (by (try simp only [List.length_cons, List.length_nil]) <;> omega)
  obtain ⟨yp5, hyp5⟩ : ∃ z : List UInt8, z = yp4 ++ Lp2 := ⟨_, rfl⟩
  have lyp5 : yp5.length = 14 := by rw [hyp5, List.length_append] <;> (try simp only [List.length_cons, List.length_nil]) <;> omega
  have pyp5 : ∀ W, (Op.stringOp .add ⟨yp4.toArray⟩ ⟨Lp2.toArray⟩).run Tryd.prog W = .ok (.string ⟨yp5.toArray⟩) W := fun W => by rw [hyp5]; exact run_string_add_lists W yp4 Lp2 (by (try simp only [List.length_cons, List.length_nil]) <;> omega) (by (try simp only [List.length_cons, List.length_nil]) <;> omega)
  obtain ⟨yp6, hyp6⟩ : ∃ z : List UInt8, z = yp5 ++ Lp3 := ⟨_, rfl⟩
  have lyp6 : yp6.length = 16 := by rw [hyp6, List.length_append] <;> (try simp only [List.length_cons, List.length_nil]) <;> omega
  have pyp6 : ∀ W, (Op.stringOp .add ⟨yp5.toArray⟩ ⟨Lp3.toArray⟩).run Tryd.prog W = .ok (.string ⟨yp6.toArray⟩) W := fun W => by rw [hyp6]; exact run_string_add_lists W yp5 Lp3 (by (try simp only [List.length_cons, List.length_nil]) <;> omega) (by (try simp only [List.length_cons, List.length_nil]) <;> omega)
  obtain ⟨yp7, hyp7⟩ : ∃ z : List UInt8, z = yp6 ++ Lp4 := ⟨_, rfl⟩
  have lyp7 : yp7.length = 17 := by rw [hyp7, List.length_append] <;> (try simp only [List.length_cons, List.length_nil]) <;> omega
  have pyp7 : ∀ W, (Op.stringOp .add ⟨yp6.toArray⟩ ⟨Lp4.toArray⟩).run Tryd.prog W = .ok (.string ⟨yp7.toArray⟩) W := fun W => by rw [hyp7]; exact run_string_add_lists W yp6 Lp4 (by (try simp only [List.length_cons, List.length_nil]) <;> omega) (by (try simp only [List.length_cons, List.length_nil]) <;> omega)
  obtain ⟨yp8, hyp8⟩ : ∃ z : List UInt8, z = yp7 ++ [0, 0, 0] := ⟨_, rfl⟩
  have lyp8 : yp8.length = 20 := by rw [hyp8, List.length_append] <;> (try simp only [List.length_cons, List.length_nil]) <;> omega
  have pyp8 : ∀ W, (Op.stringOp .add ⟨yp7.toArray⟩ ⟨#[0, 0, 0]⟩).run Tryd.prog W = .ok (.string ⟨yp8.toArray⟩) W := fun W => by rw [hyp8]; exact run_string_add_lists W yp7 [0, 0, 0] (by (try simp only [List.length_cons, List.length_nil]) <;> omega) (by (try simp only [List.length_cons, List.length_nil]) <;> omega)
  obtain ⟨S2, hS2⟩ : ∃ z : List UInt8, z = S1 ++ yp8 := ⟨_, rfl⟩
  have lS2 : S2.length = 42 := by rw [hS2, List.length_append] <;> (try simp only [List.length_cons, List.length_nil]) <;> omega
  have pS2 : ∀ W, (Op.stringOp .add ⟨S1.toArray⟩ ⟨yp8.toArray⟩).run Tryd.prog W = .ok (.string ⟨S2.toArray⟩) W := fun W => by rw [hS2]; exact run_string_add_lists W S1 yp8 (by (try simp only [List.length_cons, List.length_nil]) <;> omega) (by (try simp only [List.length_cons, List.length_nil]) <;> omega)
  have ep : [2, 20] ++ pyL l.p = yp8 := by rw [HYp.out, hyp8, hyp7, hyp6, hyp5, hyp4, hyp3, hyp2, hyp1]; simp only [List.append_assoc, List.cons_append, List.nil_append]
  obtain ⟨D1, hD1⟩ : ∃ z : List UInt8, z = [3, 16] ++ LD := ⟨_, rfl⟩
  have lD1 : D1.length = 4 := by rw [hD1, List.length_append] <;> (try simp only [List.length_cons, List.length_nil]) <;> omega
  have pD1 : ∀ W, (Op.stringOp .add ⟨#[3, 16]⟩ ⟨LD.toArray⟩).run Tryd.prog W = .ok (.string ⟨D1.toArray⟩) W := fun W => by rw [hD1]; exact run_string_add_lists W [3, 16] LD (by decide) (by omega)
  obtain ⟨S3, hS3⟩ : ∃ z : List UInt8, z = S2 ++ D1 := ⟨_, rfl⟩
  have lS3 : S3.length = 46 := by rw [hS3, List.length_append]; omega
  have pS3 : ∀ W, (Op.stringOp .add ⟨S2.toArray⟩ ⟨D1.toArray⟩).run Tryd.prog W = .ok (.string ⟨S3.toArray⟩) W := fun W => by rw [hS3]; exact run_string_add_lists W S2 D1 (by omega) (by omega)
  replace HW : Hid (LL = S3 ++ List.replicate 64 0) := by
    show _ = _
    rw [HW.out, ea, ep, ← hD1, hS3, hS2, hS1]
    simp only [List.append_assoc]
  have hw1 : IntKind.i64.wrap 1 = 1 := by rw [IntKind.wrap_i64] <;> omega
  have hw2 : IntKind.i64.wrap 2 = 2 := by rw [IntKind.wrap_i64] <;> omega
  have HP := Lib.hid (fun j (hj : j ≤ 100) => pad_list S3 j (Or.inl lS3) hj)
  have HLS := Lib.hid lS3
  clear f0 f1 f2 h hD lD1 hD1 hS1 hS2 hS3 lS1 lS2 lS3 ea ep HYa HYp ha0 ha1 ha2 ha3 ha4 hp0 hp1 hp2 hp3 hp4 haA hpA hya1 lya1 hya2 lya2 hya3 lya3 hya4 lya4 hya5 lya5 hya6 lya6 hya7 lya7 hya8 lya8 hyp1 lyp1 hyp2 lyp2 hyp3 lyp3 hyp4 lyp4 hyp5 lyp5 hyp6 lyp6 hyp7 lyp7 hyp8 lyp8
  go_enter Tryd.func9, Tryd.ntmps9
  go_upto_region 1 with (fail)
  generalize (w.alloc (.cells (lcC l) 27)) = w1 at *
  go_wp2_with (refine load_blk (k := 0) 27 (lcC l) (by rfl) rfl rfl HA (by kernel_rfl) (by kernel_rfl) rfl ?_)
  refine (HR.out _).mono ?_
  rintro e w2 ⟨rfl, k2⟩
  have HA2 := HA.kept k2
  have B2 := B0.trans (k2.mono B0.size)
  clear HA B0 k2
  go_wp2_with (first
    | (refine load_blk (k := 0) 25 (pyC l.a) (by rfl) rfl rfl HA2 (by kernel_rfl) (by kernel_rfl) rfl ?_)
    | (refine load_blk (k := 11) 25 (pyC l.p) (by rfl) rfl rfl HA2 (by kernel_rfl) (by kernel_rfl) rfl ?_)
    | (refine wpList_buildSlice rfl 53 25 2 _ rfl (py2C l.a l.p) i0 (.agg (pyC zPy)) Tryd.underlying53 hi hz0 (by rw [hz1]; decide) (by rw [hz1]; decide) (by rw [hz1]; simp only [List.map_toArray, List.map_cons, List.map_nil]; exact fill_py2 l.a l.p) ?_))
  have HG3 := Blk.new w2 25 (py2C l.a l.p)
  have HA3 := HA2.alloc (.cells (py2C l.a l.p) 25)
  have B3 := B2.alloc B2.size (.cells (py2C l.a l.p) 25)
  have hAG : w.heap.size < w2.heap.size := HA2.lt
  generalize w2.alloc (.cells (py2C l.a l.p) 25) = w3 at *
  clear HA2 B2
  generalize w2.heap.size = G at *
  go_loopw [4, 5, 6, 16] (fun s _ _ i wr => Blk wr w.heap.size 27 (lcC l) ∧ Blk wr G 25 (py2C l.a l.p) ∧ Below w.heap.size w wr ∧ ((i = .int .i64 0 ∧ s = .string ⟨#[1, 1]⟩) ∨ (i = .int .i64 1 ∧ s = .string ⟨S1.toArray⟩) ∨ (i = .int .i64 2 ∧ s = .string ⟨S2.toArray⟩))) (fun _ _ _ i _ => 2 - (intOf i).toNat)
  case atStart => exact ⟨HA3, HG3, B3, Or.inl ⟨rfl, rfl⟩⟩
  case round =>
    clear HA3 HG3 B3
    obtain ⟨HAr, HGr, Br, hcase⟩ := hrel
    rcases hcase with ⟨rfl, rfl⟩ | ⟨rfl, rfl⟩ | ⟨rfl, rfl⟩
    · have hGr : G < wr.heap.size := HGr.lt
      have hAr : w.heap.size < wr.heap.size := HAr.lt
      go_wp2_with (first
        | (refine load_blk (k := 0) 25 (pyC l.a) (by rfl) rfl rfl HGr (by kernel_rfl) (by kernel_rfl) rfl ?_)
        | (refine alloc_blk 25 (pyC zPy) (by rfl) rfl Tryd.pyZero ?_)
        | (refine store_blk (k := 0) 25 (.agg (pyC l.a)) (pyC l.a) (by rfl) rfl rfl rfl (Blk.new wr _ _) (by kernel_rfl) (show (11 : Nat) ≤ 11 from Nat.le_refl 11) (by rfl) rfl ?_; intro w4 HV4 b4 g4; have HA4 := (HAr.alloc (.cells (pyC zPy) 25)).below b4 hAr; have HG4 := (HGr.alloc (.cells (pyC zPy) 25)).below b4 hGr; have B4 := (Br.alloc Br.size (.cells (pyC zPy) 25)).trans (b4.mono Br.size)))
      clear HAr HGr Br b4 g4 hGr hAr
      generalize wr.heap.size = V at *
      have K0 : Hid (∀ W : World, Blk W V 25 (pyC l.a) → (fun w' => Blk w' V 25 (pyC l.a) ∧ w'.cell? ⟨V, 0, none⟩ = some (.int .i64 l.a.sp) ∧ w'.cell? ⟨V, 7, none⟩ = some (.int .i64 l.a.ke) ∧ w'.cell? ⟨V, 8, none⟩ = some (.int .i64 l.a.pp) ∧ w'.cell? ⟨V, 9, none⟩ = some (.int .i64 l.a.po) ∧ w'.cell? ⟨V, 10, none⟩ = some (.int .i64 l.a.st)) W) := fun W h => ⟨h, h.c 0, h.c 7, h.c 8, h.c 9, h.c 10⟩
      refine wp_region_noPanic ?_
      refine wp_region_held_drew (S := fun w' => Blk w' V 25 (pyC l.a) ∧ w'.cell? ⟨V, 0, none⟩ = some (.int .i64 l.a.sp) ∧ w'.cell? ⟨V, 7, none⟩ = some (.int .i64 l.a.ke) ∧ w'.cell? ⟨V, 8, none⟩ = some (.int .i64 l.a.pp) ∧ w'.cell? ⟨V, 9, none⟩ = some (.int .i64 l.a.po) ∧ w'.cell? ⟨V, 10, none⟩ = some (.int .i64 l.a.st)) (by kernel_rfl) ?_ (fun hHeld => ?_)
      · exact K0.out _ HV4
      refine wpAnyH_take (i := 0) (v := ?_) rfl (by kernel_rfl) (by kernel_rfl) (by kernel_rfl) (fun _ _ _ h => h) (Or.inl ⟨by rfl, ?_⟩) (by assumption) ?_
      rotate_left
      · (intro w hSw; (try dsimp only at hSw); go_simp; (try with_reducible rfl))
      (try simp only [Act.put, List.getElem_toArray, List.getElem_cons_zero, List.getElem_cons_succ, List.setIfInBounds_toArray, List.set_cons_zero, List.set_cons_succ])
      refine wpAnyH_take (i := 1) (v := ?_) rfl (by kernel_rfl) (by kernel_rfl) (by kernel_rfl) (fun _ _ _ h => h) (Or.inl ⟨by rfl, ?_⟩) (by assumption) ?_
      rotate_left
      · (intro w hSw; (try dsimp only at hSw); go_simp; (try with_reducible rfl))
      (try simp only [Act.put, List.getElem_toArray, List.getElem_cons_zero, List.getElem_cons_succ, List.setIfInBounds_toArray, List.set_cons_zero, List.set_cons_succ])
      refine wpAnyH_take (i := 2) (v := ?_) rfl (by kernel_rfl) (by kernel_rfl) (by kernel_rfl) (fun _ _ _ h => h) (Or.inl ⟨by rfl, ?_⟩) (by assumption) ?_
      rotate_left
      · (intro w hSw; (try dsimp only at hSw); go_simp; (try with_reducible rfl))
      (try simp only [Act.put, List.getElem_toArray, List.getElem_cons_zero, List.getElem_cons_succ, List.setIfInBounds_toArray, List.set_cons_zero, List.set_cons_succ])
      refine wpAnyH_take (i := 6) (v := ?_) rfl (by kernel_rfl) (by kernel_rfl) (by kernel_rfl) (fun _ _ _ h => h) (Or.inl ⟨by rfl, ?_⟩) (by assumption) ?_
      rotate_left
      · (intro w hSw; (try dsimp only at hSw); go_simp; (try with_reducible rfl))
      (try simp only [Act.put, List.getElem_toArray, List.getElem_cons_zero, List.getElem_cons_succ, List.setIfInBounds_toArray, List.set_cons_zero, List.set_cons_succ])
      refine wpAnyH_take (i := 7) (v := ?_) rfl (by kernel_rfl) (by kernel_rfl) (by kernel_rfl) (fun _ _ _ h => h) (Or.inl ⟨by rfl, ?_⟩) (by assumption) ?_
      rotate_left
      · (intro w hSw; (try dsimp only at hSw); go_simp; (try with_reducible rfl))
      (try simp only [Act.put, List.getElem_toArray, List.getElem_cons_zero, List.getElem_cons_succ, List.setIfInBounds_toArray, List.set_cons_zero, List.set_cons_succ])
      refine wpAnyH_take (i := 10) (v := ?_) rfl (by kernel_rfl) (by kernel_rfl) (by kernel_rfl) (fun _ _ _ h => h) (Or.inl ⟨by rfl, ?_⟩) (by assumption) ?_
      rotate_left
      · (intro w hSw; (try dsimp only at hSw); go_simp; (try with_reducible rfl))
      (try simp only [Act.put, List.getElem_toArray, List.getElem_cons_zero, List.getElem_cons_succ, List.setIfInBounds_toArray, List.set_cons_zero, List.set_cons_succ])
      refine wpAnyH_take (i := 11) (v := ?_) rfl (by kernel_rfl) (by kernel_rfl) (by kernel_rfl) (fun _ _ _ h => h) (Or.inl ⟨by rfl, ?_⟩) (by assumption) ?_
      rotate_left
      · (intro w hSw; (try dsimp only at hSw); go_simp; (try with_reducible rfl))
      (try simp only [Act.put, List.getElem_toArray, List.getElem_cons_zero, List.getElem_cons_succ, List.setIfInBounds_toArray, List.set_cons_zero, List.set_cons_succ])
      refine wpAnyH_take (i := 12) (v := .string ⟨LaA.toArray⟩) rfl (by kernel_rfl) (by kernel_rfl) (by kernel_rfl) (fun _ _ _ h => h) (Or.inl ⟨by rfl, fun w hSw => by rw [HLaA.out]; exact exec_text l.a.sy rfl rfl hb.1 (six_of hSw.1 (k := 1) rfl)⟩) (by assumption) ?_
      (try simp only [Act.put, List.getElem_toArray, List.getElem_cons_zero, List.getElem_cons_succ, List.setIfInBounds_toArray, List.set_cons_zero, List.set_cons_succ])
      refine wpAnyH_take (i := 14) (v := ?_) rfl (by kernel_rfl) (by kernel_rfl) (by kernel_rfl) (fun _ _ _ h => h) (Or.inl ⟨by rfl, ?_⟩) (by assumption) ?_
      rotate_left
      · (intro w hSw; (try dsimp only at hSw); go_simp; (try with_reducible rfl))
      (try simp only [Act.put, List.getElem_toArray, List.getElem_cons_zero, List.getElem_cons_succ, List.setIfInBounds_toArray, List.set_cons_zero, List.set_cons_succ])
      refine wpAnyH_take (i := 15) (v := ?_) rfl (by kernel_rfl) (by kernel_rfl) (by kernel_rfl) (fun _ _ _ h => h) (Or.inl ⟨by rfl, ?_⟩) (by assumption) ?_
      rotate_left
      · (intro w hSw; (try dsimp only at hSw); go_simp; (try with_reducible rfl))
      (try simp only [Act.put, List.getElem_toArray, List.getElem_cons_zero, List.getElem_cons_succ, List.setIfInBounds_toArray, List.set_cons_zero, List.set_cons_succ])
      refine wpAnyH_take (i := 18) (v := ?_) rfl (by kernel_rfl) (by kernel_rfl) (by kernel_rfl) (fun _ _ _ h => h) (Or.inl ⟨by rfl, ?_⟩) (by assumption) ?_
      rotate_left
      · (intro w hSw; (try dsimp only at hSw); go_simp; (try with_reducible rfl))
      (try simp only [Act.put, List.getElem_toArray, List.getElem_cons_zero, List.getElem_cons_succ, List.setIfInBounds_toArray, List.set_cons_zero, List.set_cons_succ])
      refine wpAnyH_take (i := 19) (v := ?_) rfl (by kernel_rfl) (by kernel_rfl) (by kernel_rfl) (fun _ _ _ h => h) (Or.inl ⟨by rfl, ?_⟩) (by assumption) ?_
      rotate_left
      · (intro w hSw; (try dsimp only at hSw); go_simp; (try with_reducible rfl))
      (try simp only [Act.put, List.getElem_toArray, List.getElem_cons_zero, List.getElem_cons_succ, List.setIfInBounds_toArray, List.set_cons_zero, List.set_cons_succ])
      refine wpAnyH_take (i := 22) (v := ?_) rfl (by kernel_rfl) (by kernel_rfl) (by kernel_rfl) (fun _ _ _ h => h) (Or.inl ⟨by rfl, ?_⟩) (by assumption) ?_
      rotate_left
      · (intro w hSw; (try dsimp only at hSw); go_simp; (try with_reducible rfl))
      (try simp only [Act.put, List.getElem_toArray, List.getElem_cons_zero, List.getElem_cons_succ, List.setIfInBounds_toArray, List.set_cons_zero, List.set_cons_succ])
      refine wpAnyH_take (i := 23) (v := ?_) rfl (by kernel_rfl) (by kernel_rfl) (by kernel_rfl) (fun _ _ _ h => h) (Or.inl ⟨by rfl, ?_⟩) (by assumption) ?_
      rotate_left
      · (intro w hSw; (try dsimp only at hSw); go_simp; (try with_reducible rfl))
      (try simp only [Act.put, List.getElem_toArray, List.getElem_cons_zero, List.getElem_cons_succ, List.setIfInBounds_toArray, List.set_cons_zero, List.set_cons_succ])
      refine wpAnyH_take (i := 26) (v := ?_) rfl (by kernel_rfl) (by kernel_rfl) (by kernel_rfl) (fun _ _ _ h => h) (Or.inl ⟨by rfl, ?_⟩) (by assumption) ?_
      rotate_left
      · (intro w hSw; (try dsimp only at hSw); go_simp; (try with_reducible rfl))
      (try simp only [Act.put, List.getElem_toArray, List.getElem_cons_zero, List.getElem_cons_succ, List.setIfInBounds_toArray, List.set_cons_zero, List.set_cons_succ])
      refine wpAnyH_take (i := 27) (v := ?_) rfl (by kernel_rfl) (by kernel_rfl) (by kernel_rfl) (fun _ _ _ h => h) (Or.inl ⟨by rfl, ?_⟩) (by assumption) ?_
      rotate_left
      · (intro w hSw; (try dsimp only at hSw); go_simp; (try with_reducible rfl))
      (try simp only [Act.put, List.getElem_toArray, List.getElem_cons_zero, List.getElem_cons_succ, List.setIfInBounds_toArray, List.set_cons_zero, List.set_cons_succ])
      refine wpAnyH_ready (rs := [3]) (by kernel_rfl) (by simp) ?_
      refine AllReadyH.cons rfl (fun K hK => ?_) AllReadyH.nil
      simp only [List.getElem_toArray, List.getElem_cons_zero, List.getElem_cons_succ]
      go_simp
      go_at_call 24; (with_reducible refine (HE1.out _).mono ?_); rintro e w5 ⟨rfl, b5⟩; have HV5 := HV4.drew.kept b5; have HA5 := HA4.drew.kept b5; have HG5 := HG4.drew.kept b5; have B5 := B4.drew.trans (b5.mono B4.drew.size)
      refine hK.out _ _ ?_ (fun hHeld => ?_)
      · exact K0.out _ HV5
      clear hK K
      (try simp only [Act.put, List.getElem_toArray, List.getElem_cons_zero, List.getElem_cons_succ, List.setIfInBounds_toArray, List.set_cons_zero, List.set_cons_succ])
      refine wpAnyH_ready (rs := [4]) (by kernel_rfl) (by simp) ?_
      refine AllReadyH.cons rfl (fun K hK => ?_) AllReadyH.nil
      simp only [List.getElem_toArray, List.getElem_cons_zero, List.getElem_cons_succ]
      go_simp
      go_at_call 24; (with_reducible refine (HE20.out _).mono ?_); rintro e w6 ⟨rfl, b6⟩; have HV6 := HV5.kept b6; have HA6 := HA5.kept b6; have HG6 := HG5.kept b6; have B6 := B5.trans (b6.mono B5.size)
      refine hK.out _ _ ?_ (fun hHeld => ?_)
      · exact K0.out _ HV6
      clear hK K
      (try simp only [Act.put, List.getElem_toArray, List.getElem_cons_zero, List.getElem_cons_succ, List.setIfInBounds_toArray, List.set_cons_zero, List.set_cons_succ])
      refine wpAnyH_take (i := 5) (v := ?_) rfl (by kernel_rfl) (by kernel_rfl) (by kernel_rfl) (fun _ _ _ h => h) (Or.inl ⟨by rfl, ?_⟩) (by assumption) ?_
      rotate_left
      · (intro w hSw; (try dsimp only at hSw); go_simp; (try with_reducible rfl))
      (try simp only [Act.put, List.getElem_toArray, List.getElem_cons_zero, List.getElem_cons_succ, List.setIfInBounds_toArray, List.set_cons_zero, List.set_cons_succ])
      refine wpAnyH_ready (rs := [8]) (by kernel_rfl) (by simp) ?_
      refine AllReadyH.cons rfl (fun K hK => ?_) AllReadyH.nil
      simp only [List.getElem_toArray, List.getElem_cons_zero, List.getElem_cons_succ]
      go_simp
      go_at_call 24; (with_reducible refine (HBa0.out _).mono ?_); rintro e w7 ⟨rfl, b7⟩; have HV7 := HV6.kept b7; have HA7 := HA6.kept b7; have HG7 := HG6.kept b7; have B7 := B6.trans (b7.mono B6.size)
      refine hK.out _ _ ?_ (fun hHeld => ?_)
      · exact K0.out _ HV7
      clear hK K
      (try simp only [Act.put, List.getElem_toArray, List.getElem_cons_zero, List.getElem_cons_succ, List.setIfInBounds_toArray, List.set_cons_zero, List.set_cons_succ])
      refine wpAnyH_take (i := 9) (v := ?_) rfl (by kernel_rfl) (by kernel_rfl) (by kernel_rfl) (fun _ _ _ h => h) (Or.inl ⟨by rfl, ?_⟩) (by assumption) ?_
      rotate_left
      · (intro w hSw; (try dsimp only at hSw); go_simp; (try with_reducible rfl))
      (try simp only [Act.put, List.getElem_toArray, List.getElem_cons_zero, List.getElem_cons_succ, List.setIfInBounds_toArray, List.set_cons_zero, List.set_cons_succ])
      refine wpAnyH_take (i := 13) (v := ?_) rfl (by kernel_rfl) (by kernel_rfl) (by kernel_rfl) (fun _ _ _ h => h) (Or.inl ⟨by rfl, ?_⟩) (by assumption) ?_
      rotate_left
      · (intro w hSw; (try dsimp only at hSw); go_simp; (try with_reducible rfl))
      (try simp only [Act.put, List.getElem_toArray, List.getElem_cons_zero, List.getElem_cons_succ, List.setIfInBounds_toArray, List.set_cons_zero, List.set_cons_succ])
      refine wpAnyH_ready (rs := [16]) (by kernel_rfl) (by simp) ?_
      refine AllReadyH.cons rfl (fun K hK => ?_) AllReadyH.nil
      simp only [List.getElem_toArray, List.getElem_cons_zero, List.getElem_cons_succ]
      go_simp
      go_at_call 24; (with_reducible refine (HBa1.out _).mono ?_); rintro e w8 ⟨rfl, b8⟩; have HV8 := HV7.kept b8; have HA8 := HA7.kept b8; have HG8 := HG7.kept b8; have B8 := B7.trans (b8.mono B7.size)
      refine hK.out _ _ ?_ (fun hHeld => ?_)
      · exact K0.out _ HV8
      clear hK K
      (try simp only [Act.put, List.getElem_toArray, List.getElem_cons_zero, List.getElem_cons_succ, List.setIfInBounds_toArray, List.set_cons_zero, List.set_cons_succ])
      refine wpAnyH_take (i := 17) (v := ?_) rfl (by kernel_rfl) (by kernel_rfl) (by kernel_rfl) (fun _ _ _ h => h) (Or.inl ⟨by rfl, ?_⟩) (by assumption) ?_
      rotate_left
      · (intro w hSw; (try dsimp only at hSw); go_simp; (try with_reducible rfl))
      (try simp only [Act.put, List.getElem_toArray, List.getElem_cons_zero, List.getElem_cons_succ, List.setIfInBounds_toArray, List.set_cons_zero, List.set_cons_succ])
      refine wpAnyH_ready (rs := [20]) (by kernel_rfl) (by simp) ?_
      refine AllReadyH.cons rfl (fun K hK => ?_) AllReadyH.nil
      simp only [List.getElem_toArray, List.getElem_cons_zero, List.getElem_cons_succ]
      go_simp
      go_at_call 24; (with_reducible refine (HBa2.out _).mono ?_); rintro e w9 ⟨rfl, b9⟩; have HV9 := HV8.kept b9; have HA9 := HA8.kept b9; have HG9 := HG8.kept b9; have B9 := B8.trans (b9.mono B8.size)
      refine hK.out _ _ ?_ (fun hHeld => ?_)
      · exact K0.out _ HV9
      clear hK K
      (try simp only [Act.put, List.getElem_toArray, List.getElem_cons_zero, List.getElem_cons_succ, List.setIfInBounds_toArray, List.set_cons_zero, List.set_cons_succ])
      refine wpAnyH_take (i := 21) (v := ?_) rfl (by kernel_rfl) (by kernel_rfl) (by kernel_rfl) (fun _ _ _ h => h) (Or.inl ⟨by rfl, ?_⟩) (by assumption) ?_
      rotate_left
      · (intro w hSw; (try dsimp only at hSw); go_simp; (try with_reducible rfl))
      (try simp only [Act.put, List.getElem_toArray, List.getElem_cons_zero, List.getElem_cons_succ, List.setIfInBounds_toArray, List.set_cons_zero, List.set_cons_succ])
      refine wpAnyH_ready (rs := [24]) (by kernel_rfl) (by simp) ?_
      refine AllReadyH.cons rfl (fun K hK => ?_) AllReadyH.nil
      simp only [List.getElem_toArray, List.getElem_cons_zero, List.getElem_cons_succ]
      go_simp
      go_at_call 24; (with_reducible refine (HBa3.out _).mono ?_); rintro e w10 ⟨rfl, b10⟩; have HV10 := HV9.kept b10; have HA10 := HA9.kept b10; have HG10 := HG9.kept b10; have B10 := B9.trans (b10.mono B9.size)
      refine hK.out _ _ ?_ (fun hHeld => ?_)
      · exact K0.out _ HV10
      clear hK K
      (try simp only [Act.put, List.getElem_toArray, List.getElem_cons_zero, List.getElem_cons_succ, List.setIfInBounds_toArray, List.set_cons_zero, List.set_cons_succ])
      refine wpAnyH_take (i := 25) (v := ?_) rfl (by kernel_rfl) (by kernel_rfl) (by kernel_rfl) (fun _ _ _ h => h) (Or.inl ⟨by rfl, ?_⟩) (by assumption) ?_
      rotate_left
      · (intro w hSw; (try dsimp only at hSw); go_simp; (try with_reducible rfl))
      (try simp only [Act.put, List.getElem_toArray, List.getElem_cons_zero, List.getElem_cons_succ, List.setIfInBounds_toArray, List.set_cons_zero, List.set_cons_succ])
      refine wpAnyH_ready (rs := [28]) (by kernel_rfl) (by simp) ?_
      refine AllReadyH.cons rfl (fun K hK => ?_) AllReadyH.nil
      simp only [List.getElem_toArray, List.getElem_cons_zero, List.getElem_cons_succ]
      go_simp
      go_at_call 24; (with_reducible refine (HBa4.out _).mono ?_); rintro e w11 ⟨rfl, b11⟩; have HV11 := HV10.kept b11; have HA11 := HA10.kept b11; have HG11 := HG10.kept b11; have B11 := B10.trans (b11.mono B10.size)
      refine hK.out _ _ ?_ (fun hHeld => ?_)
      · exact K0.out _ HV11
      clear hK K
      (try simp only [Act.put, List.getElem_toArray, List.getElem_cons_zero, List.getElem_cons_succ, List.setIfInBounds_toArray, List.set_cons_zero, List.set_cons_succ])
      refine wpAnyH_take (i := 29) (v := ?_) rfl (by kernel_rfl) (by kernel_rfl) (by kernel_rfl) (fun _ _ _ h => h) (Or.inl ⟨by rfl, ?_⟩) (by assumption) ?_
      rotate_left
      · (intro w hSw; (try dsimp only at hSw); go_simp; (try with_reducible rfl))
      (try simp only [Act.put, List.getElem_toArray, List.getElem_cons_zero, List.getElem_cons_succ, List.setIfInBounds_toArray, List.set_cons_zero, List.set_cons_succ])
      refine wpAnyH_ready (rs := [30]) (by kernel_rfl) (by simp) ?_
      refine AllReadyH.cons rfl (fun K hK => ?_) AllReadyH.nil
      simp only [List.getElem_toArray, List.getElem_cons_zero, List.getElem_cons_succ]
      go_simp
      go_at_call 24; (with_reducible refine (HE0.out _).mono ?_); rintro e w12 ⟨rfl, b12⟩; have HV12 := HV11.kept b12; have HA12 := HA11.kept b12; have HG12 := HG11.kept b12; have B12 := B11.trans (b12.mono B11.size)
      refine hK.out _ _ ?_ (fun hHeld => ?_)
      · exact K0.out _ HV12
      clear hK K
      (try simp only [Act.put, List.getElem_toArray, List.getElem_cons_zero, List.getElem_cons_succ, List.setIfInBounds_toArray, List.set_cons_zero, List.set_cons_succ])
      refine wpAnyH_take (i := 31) (v := ?_) rfl (by kernel_rfl) (by kernel_rfl) (by kernel_rfl) (fun _ _ _ h => h) (Or.inl ⟨by rfl, ?_⟩) (by assumption) ?_
      rotate_left
      · (intro w hSw; (try dsimp only at hSw); go_simp; (try with_reducible rfl))
      (try simp only [Act.put, List.getElem_toArray, List.getElem_cons_zero, List.getElem_cons_succ, List.setIfInBounds_toArray, List.set_cons_zero, List.set_cons_succ])
      refine wpAnyH_take (i := 32) (v := ?_) rfl (by kernel_rfl) (by kernel_rfl) (by kernel_rfl) (fun _ _ _ h => h) (Or.inl ⟨by rfl, ?_⟩) (by assumption) ?_
      rotate_left
      · (intro w hSw; (try dsimp only at hSw); go_simp; (try with_reducible rfl))
      (try simp only [Act.put, List.getElem_toArray, List.getElem_cons_zero, List.getElem_cons_succ, List.setIfInBounds_toArray, List.set_cons_zero, List.set_cons_succ])
      refine wpAnyH_take (i := 33) (v := ?_) rfl (by kernel_rfl) (by kernel_rfl) (by kernel_rfl) (fun _ _ _ h => h) (Or.inl ⟨by rfl, ?_⟩) (by assumption) ?_
      rotate_left
      · (intro w hSw; (try dsimp only at hSw); go_simp; (try with_reducible rfl))
      (try simp only [Act.put, List.getElem_toArray, List.getElem_cons_zero, List.getElem_cons_succ, List.setIfInBounds_toArray, List.set_cons_zero, List.set_cons_succ])
      refine wpAnyH_done (by kernel_rfl) ?_ _
      refine NoPanic.normal ?_
      go_wp2
      go_roundw
      case rel => exact ⟨HA12, HG12, B12, Or.inr (Or.inl ⟨by first | rfl | go_num, rfl⟩)⟩
      case measure => simp [intOf]
    · have hGr : G < wr.heap.size := HGr.lt
      have hAr : w.heap.size < wr.heap.size := HAr.lt
      go_wp2_with (first
        | (refine load_blk (k := 11) 25 (pyC l.p) (by rfl) rfl rfl HGr (by kernel_rfl) (by kernel_rfl) rfl ?_)
        | (refine alloc_blk 25 (pyC zPy) (by rfl) rfl Tryd.pyZero ?_)
        | (refine store_blk (k := 0) 25 (.agg (pyC l.p)) (pyC l.p) (by rfl) rfl rfl rfl (Blk.new wr _ _) (by kernel_rfl) (show (11 : Nat) ≤ 11 from Nat.le_refl 11) (by rfl) rfl ?_; intro w4 HV4 b4 g4; have HA4 := (HAr.alloc (.cells (pyC zPy) 25)).below b4 hAr; have HG4 := (HGr.alloc (.cells (pyC zPy) 25)).below b4 hGr; have B4 := (Br.alloc Br.size (.cells (pyC zPy) 25)).trans (b4.mono Br.size)))
      clear HAr HGr Br b4 g4 hGr hAr
      generalize wr.heap.size = V at *
      have K0 : Hid (∀ W : World, Blk W V 25 (pyC l.p) → (fun w' => Blk w' V 25 (pyC l.p) ∧ w'.cell? ⟨V, 0, none⟩ = some (.int .i64 l.p.sp) ∧ w'.cell? ⟨V, 7, none⟩ = some (.int .i64 l.p.ke) ∧ w'.cell? ⟨V, 8, none⟩ = some (.int .i64 l.p.pp) ∧ w'.cell? ⟨V, 9, none⟩ = some (.int .i64 l.p.po) ∧ w'.cell? ⟨V, 10, none⟩ = some (.int .i64 l.p.st)) W) := fun W h => ⟨h, h.c 0, h.c 7, h.c 8, h.c 9, h.c 10⟩
      refine wp_region_noPanic ?_
      refine wp_region_held_drew (S := fun w' => Blk w' V 25 (pyC l.p) ∧ w'.cell? ⟨V, 0, none⟩ = some (.int .i64 l.p.sp) ∧ w'.cell? ⟨V, 7, none⟩ = some (.int .i64 l.p.ke) ∧ w'.cell? ⟨V, 8, none⟩ = some (.int .i64 l.p.pp) ∧ w'.cell? ⟨V, 9, none⟩ = some (.int .i64 l.p.po) ∧ w'.cell? ⟨V, 10, none⟩ = some (.int .i64 l.p.st)) (by kernel_rfl) ?_ (fun hHeld => ?_)
      · exact K0.out _ HV4
      refine wpAnyH_take (i := 0) (v := ?_) rfl (by kernel_rfl) (by kernel_rfl) (by kernel_rfl) (fun _ _ _ h => h) (Or.inl ⟨by rfl, ?_⟩) (by assumption) ?_
      rotate_left
      · (intro w hSw; (try dsimp only at hSw); go_simp; (try with_reducible rfl))
      (try simp only [Act.put, List.getElem_toArray, List.getElem_cons_zero, List.getElem_cons_succ, List.setIfInBounds_toArray, List.set_cons_zero, List.set_cons_succ])
      refine wpAnyH_take (i := 1) (v := ?_) rfl (by kernel_rfl) (by kernel_rfl) (by kernel_rfl) (fun _ _ _ h => h) (Or.inl ⟨by rfl, ?_⟩) (by assumption) ?_
      rotate_left
      · (intro w hSw; (try dsimp only at hSw); go_simp; (try with_reducible rfl))
      (try simp only [Act.put, List.getElem_toArray, List.getElem_cons_zero, List.getElem_cons_succ, List.setIfInBounds_toArray, List.set_cons_zero, List.set_cons_succ])
      refine wpAnyH_take (i := 2) (v := ?_) rfl (by kernel_rfl) (by kernel_rfl) (by kernel_rfl) (fun _ _ _ h => h) (Or.inl ⟨by rfl, ?_⟩) (by assumption) ?_
      rotate_left
      · (intro w hSw; (try dsimp only at hSw); go_simp; (try with_reducible rfl))
      (try simp only [Act.put, List.getElem_toArray, List.getElem_cons_zero, List.getElem_cons_succ, List.setIfInBounds_toArray, List.set_cons_zero, List.set_cons_succ])
      refine wpAnyH_take (i := 6) (v := ?_) rfl (by kernel_rfl) (by kernel_rfl) (by kernel_rfl) (fun _ _ _ h => h) (Or.inl ⟨by rfl, ?_⟩) (by assumption) ?_
      rotate_left
      · (intro w hSw; (try dsimp only at hSw); go_simp; (try with_reducible rfl))
      (try simp only [Act.put, List.getElem_toArray, List.getElem_cons_zero, List.getElem_cons_succ, List.setIfInBounds_toArray, List.set_cons_zero, List.set_cons_succ])
      refine wpAnyH_take (i := 7) (v := ?_) rfl (by kernel_rfl) (by kernel_rfl) (by kernel_rfl) (fun _ _ _ h => h) (Or.inl ⟨by rfl, ?_⟩) (by assumption) ?_
      rotate_left
      · (intro w hSw; (try dsimp only at hSw); go_simp; (try with_reducible rfl))
      (try simp only [Act.put, List.getElem_toArray, List.getElem_cons_zero, List.getElem_cons_succ, List.setIfInBounds_toArray, List.set_cons_zero, List.set_cons_succ])
      refine wpAnyH_take (i := 10) (v := ?_) rfl (by kernel_rfl) (by kernel_rfl) (by kernel_rfl) (fun _ _ _ h => h) (Or.inl ⟨by rfl, ?_⟩) (by assumption) ?_
      rotate_left
      · (intro w hSw; (try dsimp only at hSw); go_simp; (try with_reducible rfl))
      (try simp only [Act.put, List.getElem_toArray, List.getElem_cons_zero, List.getElem_cons_succ, List.setIfInBounds_toArray, List.set_cons_zero, List.set_cons_succ])
      refine wpAnyH_take (i := 11) (v := ?_) rfl (by kernel_rfl) (by kernel_rfl) (by kernel_rfl) (fun _ _ _ h => h) (Or.inl ⟨by rfl, ?_⟩) (by assumption) ?_
      rotate_left
      · (intro w hSw; (try dsimp only at hSw); go_simp; (try with_reducible rfl))
      (try simp only [Act.put, List.getElem_toArray, List.getElem_cons_zero, List.getElem_cons_succ, List.setIfInBounds_toArray, List.set_cons_zero, List.set_cons_succ])
      refine wpAnyH_take (i := 12) (v := .string ⟨LpA.toArray⟩) rfl (by kernel_rfl) (by kernel_rfl) (by kernel_rfl) (fun _ _ _ h => h) (Or.inl ⟨by rfl, fun w hSw => by rw [HLpA.out]; exact exec_text l.p.sy rfl rfl hb.2 (six_of hSw.1 (k := 1) rfl)⟩) (by assumption) ?_
      (try simp only [Act.put, List.getElem_toArray, List.getElem_cons_zero, List.getElem_cons_succ, List.setIfInBounds_toArray, List.set_cons_zero, List.set_cons_succ])
      refine wpAnyH_take (i := 14) (v := ?_) rfl (by kernel_rfl) (by kernel_rfl) (by kernel_rfl) (fun _ _ _ h => h) (Or.inl ⟨by rfl, ?_⟩) (by assumption) ?_
      rotate_left
      · (intro w hSw; (try dsimp only at hSw); go_simp; (try with_reducible rfl))
      (try simp only [Act.put, List.getElem_toArray, List.getElem_cons_zero, List.getElem_cons_succ, List.setIfInBounds_toArray, List.set_cons_zero, List.set_cons_succ])
      refine wpAnyH_take (i := 15) (v := ?_) rfl (by kernel_rfl) (by kernel_rfl) (by kernel_rfl) (fun _ _ _ h => h) (Or.inl ⟨by rfl, ?_⟩) (by assumption) ?_
      rotate_left
      · (intro w hSw; (try dsimp only at hSw); go_simp; (try with_reducible rfl))
      (try simp only [Act.put, List.getElem_toArray, List.getElem_cons_zero, List.getElem_cons_succ, List.setIfInBounds_toArray, List.set_cons_zero, List.set_cons_succ])
      refine wpAnyH_take (i := 18) (v := ?_) rfl (by kernel_rfl) (by kernel_rfl) (by kernel_rfl) (fun _ _ _ h => h) (Or.inl ⟨by rfl, ?_⟩) (by assumption) ?_
      rotate_left
      · (intro w hSw; (try dsimp only at hSw); go_simp; (try with_reducible rfl))
      (try simp only [Act.put, List.getElem_toArray, List.getElem_cons_zero, List.getElem_cons_succ, List.setIfInBounds_toArray, List.set_cons_zero, List.set_cons_succ])
      refine wpAnyH_take (i := 19) (v := ?_) rfl (by kernel_rfl) (by kernel_rfl) (by kernel_rfl) (fun _ _ _ h => h) (Or.inl ⟨by rfl, ?_⟩) (by assumption) ?_
      rotate_left
      · (intro w hSw; (try dsimp only at hSw); go_simp; (try with_reducible rfl))
      (try simp only [Act.put, List.getElem_toArray, List.getElem_cons_zero, List.getElem_cons_succ, List.setIfInBounds_toArray, List.set_cons_zero, List.set_cons_succ])
      refine wpAnyH_take (i := 22) (v := ?_) rfl (by kernel_rfl) (by kernel_rfl) (by kernel_rfl) (fun _ _ _ h => h) (Or.inl ⟨by rfl, ?_⟩) (by assumption) ?_
      rotate_left
      · (intro w hSw; (try dsimp only at hSw); go_simp; (try with_reducible rfl))
      (try simp only [Act.put, List.getElem_toArray, List.getElem_cons_zero, List.getElem_cons_succ, List.setIfInBounds_toArray, List.set_cons_zero, List.set_cons_succ])
      refine wpAnyH_take (i := 23) (v := ?_) rfl (by kernel_rfl) (by kernel_rfl) (by kernel_rfl) (fun _ _ _ h => h) (Or.inl ⟨by rfl, ?_⟩) (by assumption) ?_
      rotate_left
      · (intro w hSw; (try dsimp only at hSw); go_simp; (try with_reducible rfl))
      (try simp only [Act.put, List.getElem_toArray, List.getElem_cons_zero, List.getElem_cons_succ, List.setIfInBounds_toArray, List.set_cons_zero, List.set_cons_succ])
      refine wpAnyH_take (i := 26) (v := ?_) rfl (by kernel_rfl) (by kernel_rfl) (by kernel_rfl) (fun _ _ _ h => h) (Or.inl ⟨by rfl, ?_⟩) (by assumption) ?_
      rotate_left
      · (intro w hSw; (try dsimp only at hSw); go_simp; (try with_reducible rfl))
      (try simp only [Act.put, List.getElem_toArray, List.getElem_cons_zero, List.getElem_cons_succ, List.setIfInBounds_toArray, List.set_cons_zero, List.set_cons_succ])
      refine wpAnyH_take (i := 27) (v := ?_) rfl (by kernel_rfl) (by kernel_rfl) (by kernel_rfl) (fun _ _ _ h => h) (Or.inl ⟨by rfl, ?_⟩) (by assumption) ?_
      rotate_left
      · (intro w hSw; (try dsimp only at hSw); go_simp; (try with_reducible rfl))
      (try simp only [Act.put, List.getElem_toArray, List.getElem_cons_zero, List.getElem_cons_succ, List.setIfInBounds_toArray, List.set_cons_zero, List.set_cons_succ])
      refine wpAnyH_ready (rs := [3]) (by kernel_rfl) (by simp) ?_
      refine AllReadyH.cons rfl (fun K hK => ?_) AllReadyH.nil
      simp only [List.getElem_toArray, List.getElem_cons_zero, List.getElem_cons_succ]
      go_simp
      go_at_call 24; (with_reducible refine (HE2.out _).mono ?_); rintro e w5 ⟨rfl, b5⟩; have HV5 := HV4.drew.kept b5; have HA5 := HA4.drew.kept b5; have HG5 := HG4.drew.kept b5; have B5 := B4.drew.trans (b5.mono B4.drew.size)
      refine hK.out _ _ ?_ (fun hHeld => ?_)
      · exact K0.out _ HV5
      clear hK K
      (try simp only [Act.put, List.getElem_toArray, List.getElem_cons_zero, List.getElem_cons_succ, List.setIfInBounds_toArray, List.set_cons_zero, List.set_cons_succ])
      refine wpAnyH_ready (rs := [4]) (by kernel_rfl) (by simp) ?_
      refine AllReadyH.cons rfl (fun K hK => ?_) AllReadyH.nil
      simp only [List.getElem_toArray, List.getElem_cons_zero, List.getElem_cons_succ]
      go_simp
      go_at_call 24; (with_reducible refine (HE20.out _).mono ?_); rintro e w6 ⟨rfl, b6⟩; have HV6 := HV5.kept b6; have HA6 := HA5.kept b6; have HG6 := HG5.kept b6; have B6 := B5.trans (b6.mono B5.size)
      refine hK.out _ _ ?_ (fun hHeld => ?_)
      · exact K0.out _ HV6
      clear hK K
      (try simp only [Act.put, List.getElem_toArray, List.getElem_cons_zero, List.getElem_cons_succ, List.setIfInBounds_toArray, List.set_cons_zero, List.set_cons_succ])
      refine wpAnyH_take (i := 5) (v := ?_) rfl (by kernel_rfl) (by kernel_rfl) (by kernel_rfl) (fun _ _ _ h => h) (Or.inl ⟨by rfl, ?_⟩) (by assumption) ?_
      rotate_left
      · (intro w hSw; (try dsimp only at hSw); go_simp; (try with_reducible rfl))
      (try simp only [Act.put, List.getElem_toArray, List.getElem_cons_zero, List.getElem_cons_succ, List.setIfInBounds_toArray, List.set_cons_zero, List.set_cons_succ])
      refine wpAnyH_ready (rs := [8]) (by kernel_rfl) (by simp) ?_
      refine AllReadyH.cons rfl (fun K hK => ?_) AllReadyH.nil
      simp only [List.getElem_toArray, List.getElem_cons_zero, List.getElem_cons_succ]
      go_simp
      go_at_call 24; (with_reducible refine (HBp0.out _).mono ?_); rintro e w7 ⟨rfl, b7⟩; have HV7 := HV6.kept b7; have HA7 := HA6.kept b7; have HG7 := HG6.kept b7; have B7 := B6.trans (b7.mono B6.size)
      refine hK.out _ _ ?_ (fun hHeld => ?_)
      · exact K0.out _ HV7
      clear hK K
      (try simp only [Act.put, List.getElem_toArray, List.getElem_cons_zero, List.getElem_cons_succ, List.setIfInBounds_toArray, List.set_cons_zero, List.set_cons_succ])
      refine wpAnyH_take (i := 9) (v := ?_) rfl (by kernel_rfl) (by kernel_rfl) (by kernel_rfl) (fun _ _ _ h => h) (Or.inl ⟨by rfl, ?_⟩) (by assumption) ?_
      rotate_left
      · (intro w hSw; (try dsimp only at hSw); go_simp; (try with_reducible rfl))
      (try simp only [Act.put, List.getElem_toArray, List.getElem_cons_zero, List.getElem_cons_succ, List.setIfInBounds_toArray, List.set_cons_zero, List.set_cons_succ])
      refine wpAnyH_take (i := 13) (v := ?_) rfl (by kernel_rfl) (by kernel_rfl) (by kernel_rfl) (fun _ _ _ h => h) (Or.inl ⟨by rfl, ?_⟩) (by assumption) ?_
      rotate_left
      · (intro w hSw; (try dsimp only at hSw); go_simp; (try with_reducible rfl))
      (try simp only [Act.put, List.getElem_toArray, List.getElem_cons_zero, List.getElem_cons_succ, List.setIfInBounds_toArray, List.set_cons_zero, List.set_cons_succ])
      refine wpAnyH_ready (rs := [16]) (by kernel_rfl) (by simp) ?_
      refine AllReadyH.cons rfl (fun K hK => ?_) AllReadyH.nil
      simp only [List.getElem_toArray, List.getElem_cons_zero, List.getElem_cons_succ]
      go_simp
      go_at_call 24; (with_reducible refine (HBp1.out _).mono ?_); rintro e w8 ⟨rfl, b8⟩; have HV8 := HV7.kept b8; have HA8 := HA7.kept b8; have HG8 := HG7.kept b8; have B8 := B7.trans (b8.mono B7.size)
      refine hK.out _ _ ?_ (fun hHeld => ?_)
      · exact K0.out _ HV8
      clear hK K
      (try simp only [Act.put, List.getElem_toArray, List.getElem_cons_zero, List.getElem_cons_succ, List.setIfInBounds_toArray, List.set_cons_zero, List.set_cons_succ])
      refine wpAnyH_take (i := 17) (v := ?_) rfl (by kernel_rfl) (by kernel_rfl) (by kernel_rfl) (fun _ _ _ h => h) (Or.inl ⟨by rfl, ?_⟩) (by assumption) ?_
      rotate_left
      · (intro w hSw; (try dsimp only at hSw); go_simp; (try with_reducible rfl))
      (try simp only [Act.put, List.getElem_toArray, List.getElem_cons_zero, List.getElem_cons_succ, List.setIfInBounds_toArray, List.set_cons_zero, List.set_cons_succ])
      refine wpAnyH_ready (rs := [20]) (by kernel_rfl) (by simp) ?_
      refine AllReadyH.cons rfl (fun K hK => ?_) AllReadyH.nil
      simp only [List.getElem_toArray, List.getElem_cons_zero, List.getElem_cons_succ]
      go_simp
      go_at_call 24; (with_reducible refine (HBp2.out _).mono ?_); rintro e w9 ⟨rfl, b9⟩; have HV9 := HV8.kept b9; have HA9 := HA8.kept b9; have HG9 := HG8.kept b9; have B9 := B8.trans (b9.mono B8.size)
      refine hK.out _ _ ?_ (fun hHeld => ?_)
      · exact K0.out _ HV9
      clear hK K
      (try simp only [Act.put, List.getElem_toArray, List.getElem_cons_zero, List.getElem_cons_succ, List.setIfInBounds_toArray, List.set_cons_zero, List.set_cons_succ])
      refine wpAnyH_take (i := 21) (v := ?_) rfl (by kernel_rfl) (by kernel_rfl) (by kernel_rfl) (fun _ _ _ h => h) (Or.inl ⟨by rfl, ?_⟩) (by assumption) ?_
      rotate_left
      · (intro w hSw; (try dsimp only at hSw); go_simp; (try with_reducible rfl))
      (try simp only [Act.put, List.getElem_toArray, List.getElem_cons_zero, List.getElem_cons_succ, List.setIfInBounds_toArray, List.set_cons_zero, List.set_cons_succ])
      refine wpAnyH_ready (rs := [24]) (by kernel_rfl) (by simp) ?_
      refine AllReadyH.cons rfl (fun K hK => ?_) AllReadyH.nil
      simp only [List.getElem_toArray, List.getElem_cons_zero, List.getElem_cons_succ]
      go_simp
      go_at_call 24; (with_reducible refine (HBp3.out _).mono ?_); rintro e w10 ⟨rfl, b10⟩; have HV10 := HV9.kept b10; have HA10 := HA9.kept b10; have HG10 := HG9.kept b10; have B10 := B9.trans (b10.mono B9.size)
      refine hK.out _ _ ?_ (fun hHeld => ?_)
      · exact K0.out _ HV10
      clear hK K
      (try simp only [Act.put, List.getElem_toArray, List.getElem_cons_zero, List.getElem_cons_succ, List.setIfInBounds_toArray, List.set_cons_zero, List.set_cons_succ])
      refine wpAnyH_take (i := 25) (v := ?_) rfl (by kernel_rfl) (by kernel_rfl) (by kernel_rfl) (fun _ _ _ h => h) (Or.inl ⟨by rfl, ?_⟩) (by assumption) ?_
      rotate_left
      · (intro w hSw; (try dsimp only at hSw); go_simp; (try with_reducible rfl))
      (try simp only [Act.put, List.getElem_toArray, List.getElem_cons_zero, List.getElem_cons_succ, List.setIfInBounds_toArray, List.set_cons_zero, List.set_cons_succ])
      refine wpAnyH_ready (rs := [28]) (by kernel_rfl) (by simp) ?_
      refine AllReadyH.cons rfl (fun K hK => ?_) AllReadyH.nil
      simp only [List.getElem_toArray, List.getElem_cons_zero, List.getElem_cons_succ]
      go_simp
      go_at_call 24; (with_reducible refine (HBp4.out _).mono ?_); rintro e w11 ⟨rfl, b11⟩; have HV11 := HV10.kept b11; have HA11 := HA10.kept b11; have HG11 := HG10.kept b11; have B11 := B10.trans (b11.mono B10.size)
      refine hK.out _ _ ?_ (fun hHeld => ?_)
      · exact K0.out _ HV11
      clear hK K
      (try simp only [Act.put, List.getElem_toArray, List.getElem_cons_zero, List.getElem_cons_succ, List.setIfInBounds_toArray, List.set_cons_zero, List.set_cons_succ])
      refine wpAnyH_take (i := 29) (v := ?_) rfl (by kernel_rfl) (by kernel_rfl) (by kernel_rfl) (fun _ _ _ h => h) (Or.inl ⟨by rfl, ?_⟩) (by assumption) ?_
      rotate_left
      · (intro w hSw; (try dsimp only at hSw); go_simp; (try with_reducible rfl))
      (try simp only [Act.put, List.getElem_toArray, List.getElem_cons_zero, List.getElem_cons_succ, List.setIfInBounds_toArray, List.set_cons_zero, List.set_cons_succ])
      refine wpAnyH_ready (rs := [30]) (by kernel_rfl) (by simp) ?_
      refine AllReadyH.cons rfl (fun K hK => ?_) AllReadyH.nil
      simp only [List.getElem_toArray, List.getElem_cons_zero, List.getElem_cons_succ]
      go_simp
      go_at_call 24; (with_reducible refine (HE0.out _).mono ?_); rintro e w12 ⟨rfl, b12⟩; have HV12 := HV11.kept b12; have HA12 := HA11.kept b12; have HG12 := HG11.kept b12; have B12 := B11.trans (b12.mono B11.size)
      refine hK.out _ _ ?_ (fun hHeld => ?_)
      · exact K0.out _ HV12
      clear hK K
      (try simp only [Act.put, List.getElem_toArray, List.getElem_cons_zero, List.getElem_cons_succ, List.setIfInBounds_toArray, List.set_cons_zero, List.set_cons_succ])
      refine wpAnyH_take (i := 31) (v := ?_) rfl (by kernel_rfl) (by kernel_rfl) (by kernel_rfl) (fun _ _ _ h => h) (Or.inl ⟨by rfl, ?_⟩) (by assumption) ?_
      rotate_left
      · (intro w hSw; (try dsimp only at hSw); go_simp; (try with_reducible rfl))
      (try simp only [Act.put, List.getElem_toArray, List.getElem_cons_zero, List.getElem_cons_succ, List.setIfInBounds_toArray, List.set_cons_zero, List.set_cons_succ])
      refine wpAnyH_take (i := 32) (v := ?_) rfl (by kernel_rfl) (by kernel_rfl) (by kernel_rfl) (fun _ _ _ h => h) (Or.inl ⟨by rfl, ?_⟩) (by assumption) ?_
      rotate_left
      · (intro w hSw; (try dsimp only at hSw); go_simp; (try with_reducible rfl))
      (try simp only [Act.put, List.getElem_toArray, List.getElem_cons_zero, List.getElem_cons_succ, List.setIfInBounds_toArray, List.set_cons_zero, List.set_cons_succ])
      refine wpAnyH_take (i := 33) (v := ?_) rfl (by kernel_rfl) (by kernel_rfl) (by kernel_rfl) (fun _ _ _ h => h) (Or.inl ⟨by rfl, ?_⟩) (by assumption) ?_
      rotate_left
      · (intro w hSw; (try dsimp only at hSw); go_simp; (try with_reducible rfl))
      (try simp only [Act.put, List.getElem_toArray, List.getElem_cons_zero, List.getElem_cons_succ, List.setIfInBounds_toArray, List.set_cons_zero, List.set_cons_succ])
      refine wpAnyH_done (by kernel_rfl) ?_ _
      refine NoPanic.normal ?_
      go_wp2
      go_roundw
      case rel => exact ⟨HA12, HG12, B12, Or.inr (Or.inr ⟨by first | rfl | go_num, rfl⟩)⟩
      case measure => simp [intOf]
    · have c22 := HAr.cv 22 (.int .i64 l.de) rfl
      go_wp2_with fail
      refine (HED.out _).mono ?_
      rintro e w5 ⟨rfl, k5⟩
      have B5 := Br.trans (k5.mono Br.size)
      clear HAr HGr Br k5 c22
      go_wp2_with fail
      go_loopw [4] (fun s wz => ∃ (j : Nat) (t : ByteArray), j ≤ 64 ∧ s = .string t ∧ Hid (t = ⟨(S3 ++ List.replicate j 0).toArray⟩) ∧ Hid (t.size = 46 + j) ∧ Below w.heap.size w wz) (fun s _ => match s with | .string t => 110 - t.size | _ => 0)
      case atStart => exact ⟨0, ⟨S3.toArray⟩, by omega, rfl, by show _ = _; simp, by show S3.toArray.size = _; rw [List.size_toArray, HLS.out], B5⟩
      case round =>
        clear B5
        obtain ⟨j, t, hj, rfl, ht, hts, Bz⟩ := hrel
        have hsz := hts.out
        by_cases hlt : j < 64
        · have d1 : decide ((t.size : Int) < 110) = true := decide_eq_true (by omega)
          obtain ⟨t2, ht2⟩ : ∃ t2 : ByteArray, t2 = ⟨(S3 ++ List.replicate (j + 1) 0).toArray⟩ := ⟨_, rfl⟩
          have p1 : ∀ W, (Op.stringOp .add t ⟨#[0]⟩).run Tryd.prog W = .ok (.string t2) W := fun W => by rw [ht.out, ht2]; exact HP.out j (by omega) W
          have z2 : t2.size = 46 + (j + 1) := by rw [ht2]; show (S3 ++ List.replicate (j + 1) 0).toArray.size = _; rw [List.size_toArray, List.length_append, List.length_replicate, HLS.out]
          have HT2 := Lib.hid ht2
          have HZ2 := Lib.hid z2
          clear ht2 hsz
          go_wp2
          go_roundw
          case rel => exact ⟨j + 1, t2, by omega, rfl, HT2, HZ2, Bz⟩
          case measure =>
            have := hts.out
            show 110 - t2.size < 110 - t.size
            omega
        · obtain rfl : j = 64 := by omega
          have d1 : decide ((t.size : Int) < 110) = false := decide_eq_false (by omega)
          have e1 : Hid (t = ⟨LL.toArray⟩) := by show _ = _; rw [ht.out, HW.out]
          clear hsz
          go_wp2
          go_ret2
          exact ⟨by rw [e1.out]; rfl, Bz⟩

end Go.Proofs.YtocgnbbnaamjjaaDoor
