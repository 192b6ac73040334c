/- Texts one behind the other. lldp.take: what a record tells comes in. lldp.misplaced at every kind and number. lldp.fault: a record, whatever it is. 14.3: how many records of each kind there were. tlv.Read at every text. -/
import Derived.Test.YtocgnbbnaamjjaaGreatDoorLrK5
import Derived.Test.YtocgnbbnaamjjaaGreatDoorLrK7
import Derived.Test.YtocgnbbnaamjjaaGreatDoorLrK8
import Derived.Test.YtocgnbbnaamjjaaGreatDoorLrK9
namespace Go.Proofs.YtocgnbbnaamjjaaGreatDoor
open Go.RowKit
attribute [local go_sem ↓] Go.wp_at_zero Go.wp_at_succ
set_option linter.unusedSimpArgs false
set_option linter.unusedVariables false
set_option maxRecDepth 100000

/-- What was heard so far, in a block of its own, its lists in rows of one's own. -/
def LdAc (w : World) (D B : Nat) (x : Ld) : Prop := ∃ q : LdA, Blk w B 29 (ldC x q) ∧ OwnSt w D (.slice q.de.1 x.de.length q.de.2) x.de ∧ OwnSt w D (.slice q.ho.1 x.ho.length q.ho.2) x.ho ∧ OwnSt w D (.slice q.sy.1 x.sy.length q.sy.2) x.sy ∧ OwnCp w D (.slice q.ca.1 x.ca.length q.ca.2) x.ca ∧ OwnMg w D (.slice q.ma.1 x.ma.length q.ma.2) x.ma ∧ OwnOg w D (.slice q.og.1 x.og.length q.og.2) x.og

/-- Blocks of other types than these, but for two, stay. -/
def KeepR (B g : Nat) (ts : List TypeId) (w w' : World) : Prop := ∀ X T C, Blk w X T C → X ≠ B → X ≠ g → T ∉ ts → Blk w' X T C

abbrev mgog : List TypeId := [89, 111]

theorem KeepR.of {B g : Nat} {ts : List TypeId} {w w' : World} (h : w.grownBy w' (some g)) : KeepR B g ts w w' := fun _ _ _ hX _ h2 _ => hX.grown h (by simpa using h2)

theorem KeepR.below {B g : Nat} {ts : List TypeId} {w w' : World} (h : Below w.heap.size w w') : KeepR B g ts w w' := fun _ _ _ hX _ _ _ => hX.kept h

theorem KeepR.x {B g : Nat} {us ts : List TypeId} {w w' : World} (h : KeepX B us w w') (hs : ∀ T ∈ us, T ∈ ts) : KeepR B g ts w w' := fun X T C hX h1 _ h3 => h X T C hX h1 (fun q => h3 (hs T q))

theorem KeepR.trans {B g : Nat} {ts : List TypeId} {w w' w'' : World} (h : KeepR B g ts w w') (h' : KeepR B g ts w' w'') : KeepR B g ts w w'' := fun X T C hX h1 h2 h3 => h' X T C (h X T C hX h1 h2 h3) h1 h2 h3

theorem RdT.stay {w w' : World} {g off : Nat} {s : ByteArray} {st : RSt} (h : RdT w g s off st) (hK : ∀ X T C, Blk w X T C → T = 147 ∨ T = 99 → Blk w' X T C) : RdT w' g s off st := by
  obtain ⟨f, hr, hf⟩ := h
  refine ⟨f, hK _ _ _ hr (Or.inl rfl), ?_⟩
  rcases hf with hf | ⟨he, q, hq, hf⟩
  · exact Or.inl hf
  · exact Or.inr ⟨he, q, hq, hK _ _ _ hf (Or.inr rfl)⟩

theorem blk_ne {w : World} {X B : Nat} {T U : TypeId} {C D : Array Value} (h : Blk w X T C) (h' : Blk w B U D) (hT : T ≠ U) : X ≠ B := by
  intro q
  subst q
  have h3 : w.heap[X]? = some (.cells C T (0, 0)) := h
  have h4 : w.heap[X]? = some (.cells D U (0, 0)) := h'
  rw [h3] at h4
  injection h4 with h4
  injection h4 with _ h5
  exact hT h5

theorem LdAc.reads {w w' : World} {D B g off : Nat} {x : Ld} {s : ByteArray} {st : RSt} (h : LdAc w D B x) (hr : RdT w g s off st) (hg : w.grownBy w' (some g)) : LdAc w' D B x := by
  obtain ⟨q, hB, o1, o2, o3, o4, o5, o6⟩ := h
  have hst : ∀ X T C, Blk w X T C → T ≠ 147 → Blk w' X T C := fun X T C hX hT => hX.reads hr hT hg
  exact ⟨q, hst _ _ _ hB (by decide), o1.stay (fun X C hX => hst _ _ _ hX (by decide)), o2.stay (fun X C hX => hst _ _ _ hX (by decide)), o3.stay (fun X C hX => hst _ _ _ hX (by decide)), o4.stay (fun X C hX => hst _ _ _ hX (by decide)), o5.stay (fun X C hX => hst _ _ _ hX (by decide)), o6.stay (fun X C hX => hst _ _ _ hX (by decide))⟩

theorem LdAc.kept {w w' : World} {D B : Nat} {x : Ld} (h : LdAc w D B x) (hb : Below w.heap.size w w') : LdAc w' D B x := by
  obtain ⟨q, hB, o1, o2, o3, o4, o5, o6⟩ := h
  exact ⟨q, hB.kept hb, o1.kept hb, o2.kept hb, o3.kept hb, o4.kept hb, o5.kept hb, o6.kept hb⟩

theorem LdAc.blk {w : World} {D B : Nat} {x : Ld} (h : LdAc w D B x) : ∃ C, Blk w B 29 C := by
  obtain ⟨q, hB, _⟩ := h
  exact ⟨_, hB⟩

theorem LdAc.lt {w : World} {D B : Nat} {x : Ld} (h : LdAc w D B x) : B < w.heap.size := by
  obtain ⟨q, hB, _⟩ := h
  exact hB.lt

/-- What comes in is that. -/
def TkR (g B D : Nat) (s : ByteArray) (k : Int) (x : Ld) (w : World) (e : Ending) (w' : World) : Prop := ∃ rt st', e = .returned (.bool rt) ∧ RdT w' g s 0 st' ∧ Rdn s.data.toList (formK k s.data.toList) st' ∧ (formK k s.data.toList = true → rt = goodK k s.data.toList ∧ LdAc w' D B (addLd x ⟨k, s⟩)) ∧ KeepR B g mgog w w' ∧ Below D w w'

theorem nm_i64 (l : List UInt8) (st : RSt) (n : Nat) (hn : n ≤ 7) : i64R ((nmV l 0 st n : Nat) : Int) := by
  have h := nmV_lt l 0 st n
  have h3 : 256 ^ n ≤ 256 ^ 7 := Nat.pow_le_pow_right (by decide) hn
  unfold i64R
  omega

theorem tk_sz (l : List UInt8) (st : RSt) (n : Int) (b : Bool) : (tkN l 0 st n b).1.length ≤ l.length := by
  unfold tkN
  split
  · simp
  · split
    · simp
    · split
      · simp
      · show ((l.drop st.1).take n.toNat).length ≤ _
        rw [List.length_take, List.length_drop]
        omega

theorem rg_rc (l : List UInt8) (st : RSt) : rgCp (rcV l st) := ⟨nm_i64 l st 2 (by decide), nm_i64 l _ 2 (by decide)⟩

theorem rg_rm (l : List UInt8) (st : RSt) (h : l.length ≤ 100000) : rgMg (rmV l st) := by
  refine ⟨nm_i64 l _ 1 (by decide), nm_i64 l _ 1 (by decide), nm_i64 l _ 4 (by decide), ?_, ?_⟩
  · have := tk_sz l (rm1 l st) ((rmM l st - 1 : Nat) : Int) false
    show (⟨_⟩ : ByteArray).size ≤ _
    rw [bysz]
    unfold maxLen
    omega
  · have := tk_sz l (rm5 l st) (nmV l 0 (rm4 l st) 1 : Nat) false
    show (⟨_⟩ : ByteArray).size ≤ _
    rw [bysz]
    unfold maxLen
    omega

theorem rg_ro (l : List UInt8) (st : RSt) (h : l.length ≤ 100000) : rgOg (roV l st) := by
  refine ⟨nm_i64 l _ 3 (by decide), nm_i64 l _ 1 (by decide), ?_⟩
  have := tk_sz l (nmS l 0 (nmS l 0 st 3) 1) ((l.length - (nmS l 0 (nmS l 0 st 3) 1).1 : Nat) : Int) false
  show (⟨_⟩ : ByteArray).size ≤ _
  rw [bysz]
  unfold rsV maxLen
  omega

theorem grown_belowT' {w w' : World} {r : Option Nat} (h : w.drew.grownBy w' r) : ∀ {X : Nat} {T : TypeId} {C : Array Value}, Blk w X T C → some X ≠ r → Blk w' X T C := fun hX hn => Blk.grown (w := w.drew) hX h hn

set_option maxHeartbeats 3200000 in
theorem take_n1 {g B D : Nat} {s : ByteArray} (x : Ld)
    (w : World) (hR : RdT w g s 0 (0, 0, -1)) (hA : LdAc w D B x) (hb : s.size ≤ 100000) (hDB : D ≤ B) (hDg : D ≤ g) :
    Calls Tryz.prog 41 #[.pointer (some ⟨B, 0, none⟩), .pointer (some ⟨g, 0, none⟩), .int .i64 1] w (TkR g B D s 1 x w) := by
  have hls : s.data.toList.length = s.size := by simp
  have hg := hR.lt
  have hDw : D ≤ w.heap.size := by have := hA.lt; omega
  obtain ⟨hw1, hw2⟩ := rn_ways s.data.toList
  have HR := Lib.hid (readName_t (0, 0, -1) w hR (Nat.zero_le _) (by omega))
  have hrg : ∀ y, rnV s.data.toList (0, 0, -1) = y → (okNm y = okNm y) := fun _ _ => rfl
  have HS : Hid (∀ q, (ldC x q).toList.take 0 ++ (Value.agg (nmC (rnV s.data.toList (0, 0, -1)))).cells.toList ++ (ldC x q).toList.drop (0 + (Value.agg (nmC (rnV s.data.toList (0, 0, -1)))).cells.toList.length) = (ldC { x with ch := rnV s.data.toList (0, 0, -1) } q).toList) := fun q => rfl
  have HV : Hid (1 ≤ s.data.toList.length → ({ x with ch := rnV s.data.toList (0, 0, -1) } : Ld) = addLd x ⟨1, s⟩ ∧ okNm (rnV s.data.toList (0, 0, -1)) = goodK 1 s.data.toList) := fun q => by rw [hw2 q, addLd1, goodK1]; exact ⟨rfl, rfl⟩
  have HF : Hid (formK 1 s.data.toList = decide (1 ≤ s.data.toList.length)) := formK1 _
  have HW := Lib.hid hw1
  clear hw1 hw2 hrg
  generalize rnV s.data.toList (0, 0, -1) = y at *
  generalize rnS s.data.toList (0, 0, -1) = st1 at *
  obtain ⟨q, HB0, o1, o2, o3, o4, o5, o6⟩ := hA
  go_enter Tryz.func41, Tryz.ntmps41
  go_wp2_with fail
  refine HR.out.mono ?_
  rintro e w2 ⟨rfl, HR2, g2⟩
  have K2 : KeepR B g mgog w w2 := .of g2
  have E2 : Below D w w2 := (Below.refl D w).grown g2 hDw (fun k e => by cases e; exact hDg)
  have hst : ∀ X T C, Blk w X T C → T ≠ 147 → Blk w2 X T C := fun X T C hX hT => hX.reads hR hT g2
  have HB2 := hst _ _ _ HB0 (by decide)
  have p1 := o1.stay (fun X C hX => hst _ _ _ hX (by decide))
  have p2 := o2.stay (fun X C hX => hst _ _ _ hX (by decide))
  have p3 := o3.stay (fun X C hX => hst _ _ _ hX (by decide))
  have p4 := o4.stay (fun X C hX => hst _ _ _ hX (by decide))
  have p5 := o5.stay (fun X C hX => hst _ _ _ hX (by decide))
  have p6 := o6.stay (fun X C hX => hst _ _ _ hX (by decide))
  clear hst o1 o2 o3 o4 o5 o6 g2 HB0 HR hR
  go_wp2_with (first
    | (refine store_blk (k := 0) 23 (.agg (nmC y)) (ldC { x with ch := y } q) (by rfl) rfl rfl rfl HB2 (by kernel_rfl) (show (0 + 2 : Nat) ≤ 11 by decide) (by rfl) rfl ?_; intro w3 HB3 b3 g3; have HR3 := HR2.other HB2 (by decide) (by decide) g3; have r1 := p1.other HB2 (by decide) g3; have r2 := p2.other HB2 (by decide) g3; have r3 := p3.other HB2 (by decide) g3; have r4 := p4.other HB2 (by decide) g3; have r5 := p5.other HB2 (by decide) g3; have r6 := p6.other HB2 (by decide) g3; have K3 : KeepR B g mgog w w3 := K2.trans (.x (us := []) (KeepX.cell g3) (by simp)); have E3 := E2.trans (b3.mono hDB))
    | (refine load_blk (k := 0) 23 (nmC y) (by rfl) rfl rfl HB3 (by kernel_rfl) (by kernel_rfl) rfl ?_))
  refine (isName_any y _).mono ?_
  rintro e w4 ⟨rfl, b4⟩
  go_wp2
  go_ret
  refine ⟨_, _, rfl, HR3.below b4, by rw [HF.out]; exact HW.out, fun hf => ?_, K3.trans (.below b4), E3.trans (b4.mono (Nat.le_trans hDw E3.size))⟩
  rw [HF.out] at hf
  obtain ⟨v1, v2⟩ := HV.out (of_decide_eq_true hf)
  rw [← v1, ← v2]
  exact ⟨rfl, q, HB3.kept b4, r1.kept b4, r2.kept b4, r3.kept b4, r4.kept b4, r5.kept b4, r6.kept b4⟩

set_option maxHeartbeats 3200000 in
theorem take_n2 {g B D : Nat} {s : ByteArray} (x : Ld)
    (w : World) (hR : RdT w g s 0 (0, 0, -1)) (hA : LdAc w D B x) (hb : s.size ≤ 100000) (hDB : D ≤ B) (hDg : D ≤ g) :
    Calls Tryz.prog 41 #[.pointer (some ⟨B, 0, none⟩), .pointer (some ⟨g, 0, none⟩), .int .i64 2] w (TkR g B D s 2 x w) := by
  have hls : s.data.toList.length = s.size := by simp
  have hg := hR.lt
  have hDw : D ≤ w.heap.size := by have := hA.lt; omega
  obtain ⟨hw1, hw2⟩ := rn_ways s.data.toList
  have HR := Lib.hid (readName_t (0, 0, -1) w hR (Nat.zero_le _) (by omega))
  have hrg : ∀ y, rnV s.data.toList (0, 0, -1) = y → (okNm y = okNm y) := fun _ _ => rfl
  have HS : Hid (∀ q, (ldC x q).toList.take 2 ++ (Value.agg (nmC (rnV s.data.toList (0, 0, -1)))).cells.toList ++ (ldC x q).toList.drop (2 + (Value.agg (nmC (rnV s.data.toList (0, 0, -1)))).cells.toList.length) = (ldC { x with po := rnV s.data.toList (0, 0, -1) } q).toList) := fun q => rfl
  have HV : Hid (1 ≤ s.data.toList.length → ({ x with po := rnV s.data.toList (0, 0, -1) } : Ld) = addLd x ⟨2, s⟩ ∧ okNm (rnV s.data.toList (0, 0, -1)) = goodK 2 s.data.toList) := fun q => by rw [hw2 q, addLd2, goodK2]; exact ⟨rfl, rfl⟩
  have HF : Hid (formK 2 s.data.toList = decide (1 ≤ s.data.toList.length)) := formK2 _
  have HW := Lib.hid hw1
  clear hw1 hw2 hrg
  generalize rnV s.data.toList (0, 0, -1) = y at *
  generalize rnS s.data.toList (0, 0, -1) = st1 at *
  obtain ⟨q, HB0, o1, o2, o3, o4, o5, o6⟩ := hA
  go_enter Tryz.func41, Tryz.ntmps41
  go_wp2_with fail
  refine HR.out.mono ?_
  rintro e w2 ⟨rfl, HR2, g2⟩
  have K2 : KeepR B g mgog w w2 := .of g2
  have E2 : Below D w w2 := (Below.refl D w).grown g2 hDw (fun k e => by cases e; exact hDg)
  have hst : ∀ X T C, Blk w X T C → T ≠ 147 → Blk w2 X T C := fun X T C hX hT => hX.reads hR hT g2
  have HB2 := hst _ _ _ HB0 (by decide)
  have p1 := o1.stay (fun X C hX => hst _ _ _ hX (by decide))
  have p2 := o2.stay (fun X C hX => hst _ _ _ hX (by decide))
  have p3 := o3.stay (fun X C hX => hst _ _ _ hX (by decide))
  have p4 := o4.stay (fun X C hX => hst _ _ _ hX (by decide))
  have p5 := o5.stay (fun X C hX => hst _ _ _ hX (by decide))
  have p6 := o6.stay (fun X C hX => hst _ _ _ hX (by decide))
  clear hst o1 o2 o3 o4 o5 o6 g2 HB0 HR hR
  go_wp2_with (first
    | (refine store_blk (k := 2) 23 (.agg (nmC y)) (ldC { x with po := y } q) (by rfl) rfl rfl rfl HB2 (by kernel_rfl) (show (2 + 2 : Nat) ≤ 11 by decide) (by rfl) rfl ?_; intro w3 HB3 b3 g3; have HR3 := HR2.other HB2 (by decide) (by decide) g3; have r1 := p1.other HB2 (by decide) g3; have r2 := p2.other HB2 (by decide) g3; have r3 := p3.other HB2 (by decide) g3; have r4 := p4.other HB2 (by decide) g3; have r5 := p5.other HB2 (by decide) g3; have r6 := p6.other HB2 (by decide) g3; have K3 : KeepR B g mgog w w3 := K2.trans (.x (us := []) (KeepX.cell g3) (by simp)); have E3 := E2.trans (b3.mono hDB))
    | (refine load_blk (k := 2) 23 (nmC y) (by rfl) rfl rfl HB3 (by kernel_rfl) (by kernel_rfl) rfl ?_))
  refine (isName_any y _).mono ?_
  rintro e w4 ⟨rfl, b4⟩
  go_wp2
  go_ret
  refine ⟨_, _, rfl, HR3.below b4, by rw [HF.out]; exact HW.out, fun hf => ?_, K3.trans (.below b4), E3.trans (b4.mono (Nat.le_trans hDw E3.size))⟩
  rw [HF.out] at hf
  obtain ⟨v1, v2⟩ := HV.out (of_decide_eq_true hf)
  rw [← v1, ← v2]
  exact ⟨rfl, q, HB3.kept b4, r1.kept b4, r2.kept b4, r3.kept b4, r4.kept b4, r5.kept b4, r6.kept b4⟩

set_option maxHeartbeats 3200000 in
theorem take_tt {g B D : Nat} {s : ByteArray} (x : Ld)
    (w : World) (hR : RdT w g s 0 (0, 0, -1)) (hA : LdAc w D B x) (hb : s.size ≤ 100000) (hDB : D ≤ B) (hDg : D ≤ g) :
    Calls Tryz.prog 41 #[.pointer (some ⟨B, 0, none⟩), .pointer (some ⟨g, 0, none⟩), .int .i64 3] w (TkR g B D s 3 x w) := by
  have hls : s.data.toList.length = s.size := by simp
  have hg := hR.lt
  have hDw : D ≤ w.heap.size := by have := hA.lt; omega
  obtain ⟨hw1, hw2⟩ := rt_ways s.data.toList
  have HR := Lib.hid (numK_t (0, 0, -1) 2 (by decide) w hR (Nat.zero_le _) (by omega))
  rw [show ((2 : Nat) : Int) = (2 : Int) from rfl] at HR
  have HV : Hid (s.data.toList.length = 2 → ({ x with tt := ((nmV s.data.toList 0 (0, 0, -1) 2 : Nat) : Int) } : Ld) = addLd x ⟨3, s⟩) := fun q => by rw [hw2 q, addLd3]
  have HF : Hid (formK 3 s.data.toList = decide (s.data.toList.length = 2)) := formK3 _
  have HG : Hid (goodK 3 s.data.toList = true) := goodK3 _
  have HW := Lib.hid hw1
  clear hw1 hw2
  generalize nmV s.data.toList 0 (0, 0, -1) 2 = y at *
  generalize nmS s.data.toList 0 (0, 0, -1) 2 = st1 at *
  obtain ⟨q, HB0, o1, o2, o3, o4, o5, o6⟩ := hA
  go_enter Tryz.func41, Tryz.ntmps41
  go_wp2_with fail
  refine HR.out.mono ?_
  rintro e w2 ⟨rfl, HR2, g2⟩
  have K2 : KeepR B g mgog w w2 := .of g2
  have E2 : Below D w w2 := (Below.refl D w).grown g2 hDw (fun k e => by cases e; exact hDg)
  have hst : ∀ X T C, Blk w X T C → T ≠ 147 → Blk w2 X T C := fun X T C hX hT => hX.reads hR hT g2
  have HB2 := hst _ _ _ HB0 (by decide)
  have p1 := o1.stay (fun X C hX => hst _ _ _ hX (by decide))
  have p2 := o2.stay (fun X C hX => hst _ _ _ hX (by decide))
  have p3 := o3.stay (fun X C hX => hst _ _ _ hX (by decide))
  have p4 := o4.stay (fun X C hX => hst _ _ _ hX (by decide))
  have p5 := o5.stay (fun X C hX => hst _ _ _ hX (by decide))
  have p6 := o6.stay (fun X C hX => hst _ _ _ hX (by decide))
  clear hst o1 o2 o3 o4 o5 o6 g2 HB0 HR hR
  go_wp2_with (first
    | (refine store_blk (k := 4) 3 (.int .i64 (y : Nat)) (ldC { x with tt := ((y : Nat) : Int) } q) (by rfl) rfl rfl rfl HB2 (by kernel_rfl) (show (4 + 1 : Nat) ≤ 11 by decide) (by rfl) rfl ?_; intro w3 HB3 b3 g3; have HR3 := HR2.other HB2 (by decide) (by decide) g3; have r1 := p1.other HB2 (by decide) g3; have r2 := p2.other HB2 (by decide) g3; have r3 := p3.other HB2 (by decide) g3; have r4 := p4.other HB2 (by decide) g3; have r5 := p5.other HB2 (by decide) g3; have r6 := p6.other HB2 (by decide) g3; have K3 : KeepR B g mgog w w3 := K2.trans (.x (us := []) (KeepX.cell g3) (by simp)); have E3 := E2.trans (b3.mono hDB)))
  go_ret
  refine ⟨_, _, rfl, HR3, by rw [HF.out]; exact HW.out, fun hf => ?_, K3, E3⟩
  rw [HF.out] at hf
  have v1 := HV.out (of_decide_eq_true hf)
  rw [← v1, HG.out]
  exact ⟨rfl, q, HB3, r1, r2, r3, r4, r5, r6⟩

set_option maxHeartbeats 3200000 in
theorem take_de {g B D : Nat} {s : ByteArray} (x : Ld)
    (w : World) (hR : RdT w g s 0 (0, 0, -1)) (hA : LdAc w D B x) (hb : s.size ≤ 100000) (hDB : D ≤ B) (hDg : D ≤ g) (hz : x.de = []) :
    Calls Tryz.prog 41 #[.pointer (some ⟨B, 0, none⟩), .pointer (some ⟨g, 0, none⟩), .int .i64 4] w (TkR g B D s 4 x w) := by
  have hls : s.data.toList.length = s.size := by simp
  have hg := hR.lt
  have hDw : D ≤ w.heap.size := by have := hA.lt; omega
  obtain ⟨hw1, hw2⟩ := rest_ways s.data.toList
  have HR := Lib.hid (fun (W : World) (h : RdT W g s 0 (0, 0, -1)) => readRest_t (0, 0, -1) W h (Nat.zero_le _) (by omega))
  have HF : Hid (formK 4 s.data.toList = true) := formK4 _
  have HV : Hid (true = true → ({ x with de := x.de ++ [⟨(rsV s.data.toList (0, 0, -1)).toArray⟩] } : Ld) = addLd x ⟨4, s⟩ ∧ okSt (⟨(rsV s.data.toList (0, 0, -1)).toArray⟩) = goodK 4 s.data.toList) := fun q => by
    rw [addLd4, goodK4]
    rw [hw2, byT]
    exact ⟨rfl, rfl⟩
  have HW := Lib.hid hw1
  have hzl : x.de.length ≤ 90000 := by rw [hz]; simp
  clear hw1 hw2
  generalize rsV s.data.toList (0, 0, -1) = y at *
  generalize rsS s.data.toList (0, 0, -1) = st1 at *
  obtain ⟨q, HB0, o1, o2, o3, o4, o5, o6⟩ := hA
  have hnil : Hid (Value.slice q.de.1 x.de.length q.de.2 = .slice none 0 0) := o1.nilv hz
  go_enter Tryz.func41, Tryz.ntmps41
  go_upto_region 12 with (fail)
  refine wp_region_noPanic ?_
  refine wp_region_held_drew (S := fun _ => True) (by kernel_rfl) ?_ (fun hHeld => ?_)
  · exact trivial
  refine wpAnyH_take (i := 0) (v := ?_) rfl (by kernel_rfl) (by kernel_rfl) (by kernel_rfl) (fun _ _ _ h => h) (Or.inl ⟨by rfl, ?_⟩) (by assumption) ?_
  rotate_left
  · (intro w hSw; (try dsimp only at hSw); go_simp; (try with_reducible rfl))
  (try simp only [Act.put, List.getElem_toArray, List.getElem_cons_zero, List.getElem_cons_succ, List.setIfInBounds_toArray, List.set_cons_zero, List.set_cons_succ])
  refine wpAnyH_take (i := 1) (v := ?_) rfl (by kernel_rfl) (by kernel_rfl) (by kernel_rfl) (fun _ _ _ h => h) (Or.inl ⟨by rfl, ?_⟩) (by assumption) ?_
  rotate_left
  · (intro w hSw; (try dsimp only at hSw); go_simp; (try with_reducible rfl))
  (try simp only [Act.put, List.getElem_toArray, List.getElem_cons_zero, List.getElem_cons_succ, List.setIfInBounds_toArray, List.set_cons_zero, List.set_cons_succ])
  refine wpAnyH_take (i := 2) (v := ?_) rfl (by kernel_rfl) (by kernel_rfl) (by kernel_rfl) (fun _ _ _ h => h) (Or.inl ⟨by rfl, ?_⟩) (by assumption) ?_
  rotate_left
  · (intro w hSw; (try dsimp only at hSw); go_simp; (try with_reducible rfl))
  (try simp only [Act.put, List.getElem_toArray, List.getElem_cons_zero, List.getElem_cons_succ, List.setIfInBounds_toArray, List.set_cons_zero, List.set_cons_succ])
  refine wpAnyH_take (i := 3) (v := ?_) rfl (by kernel_rfl) (by kernel_rfl) (by kernel_rfl) (fun _ _ _ h => h) (Or.inl ⟨by rfl, ?_⟩) (by assumption) ?_
  rotate_left
  · (intro w hSw; (try dsimp only at hSw); go_simp; (try with_reducible rfl))
  (try simp only [Act.put, List.getElem_toArray, List.getElem_cons_zero, List.getElem_cons_succ, List.setIfInBounds_toArray, List.set_cons_zero, List.set_cons_succ])
  refine wpAnyH_ready (rs := [4]) (by kernel_rfl) (by simp) ?_
  refine AllReadyH.cons rfl (fun K hK => ?_) AllReadyH.nil
  simp only [List.getElem_toArray, List.getElem_cons_zero, List.getElem_cons_succ]
  go_simp
  go_at_call 54; (refine (HR.out _ (show RdT w.drew g s 0 (0, 0, -1) from hR)).mono ?_); rintro e w2 ⟨rfl, HR2, g2⟩; have K2 : KeepR B g mgog w w2 := fun _ _ _ hX _ h2 _ => grown_belowT' g2 hX (by simpa using h2); have E2 : Below D w w2 := (Below.refl D w).drew.grown g2 hDw (fun k e => by cases e; exact hDg); have hst : ∀ X T C, Blk w X T C → T ≠ 147 → Blk w2 X T C := fun X T C hX hT => Blk.reads (w := w.drew) hX hR hT g2; have HB2 := hst _ _ _ HB0 (by decide); have p1 := o1.stay (fun X C hX => hst _ _ _ hX (by decide)); have p2 := o2.stay (fun X C hX => hst _ _ _ hX (by decide)); have p3 := o3.stay (fun X C hX => hst _ _ _ hX (by decide)); have p4 := o4.stay (fun X C hX => hst _ _ _ hX (by decide)); have p5 := o5.stay (fun X C hX => hst _ _ _ hX (by decide)); have p6 := o6.stay (fun X C hX => hst _ _ _ hX (by decide)); clear hst o1 o2 o3 o4 o5 o6 g2 HB0 HR hR
  refine hK.out _ _ ?_ (fun hHeld => ?_)
  · exact trivial
  clear hK K
  (try simp only [Act.put, List.getElem_toArray, List.getElem_cons_zero, List.getElem_cons_succ, List.setIfInBounds_toArray, List.set_cons_zero, List.set_cons_succ])
  refine wpAnyH_ready (rs := [5]) (by kernel_rfl) (by simp) ?_
  refine AllReadyH.cons rfl (fun K hK => ?_) AllReadyH.nil
  simp only [List.getElem_toArray, List.getElem_cons_zero, List.getElem_cons_succ]
  go_simp
  go_at_call 53; (refine (takeOne_st B 5 D ⟨y.toArray⟩ x.de (.slice q.de.1 x.de.length q.de.2) _ w2 HB2 rfl p1 (by rw [hnil.out]; rfl) (by omega) (Nat.le_trans hDw E2.size)).mono ?_); rintro e w3 ⟨rfl, v', HB3, HO3, K, Eb⟩; have K3 : KeepR B g mgog w w3 := K2.trans (.x K (by simp)); have E3 := E2.trans (Eb D (Nat.le_refl _) hDB); have HR3 : RdT w3 g s 0 st1 := HR2.stay (fun X T C hX hT => K X T C hX (blk_ne hX HB2 (by rcases hT with rfl | rfl <;> decide)) (by rcases hT with rfl | rfl <;> decide)); have r2 := p2.stay (fun X C hX => K X _ C hX (blk_ne hX HB2 (by decide)) (by decide)); have r3 := p3.stay (fun X C hX => K X _ C hX (blk_ne hX HB2 (by decide)) (by decide)); have r4 := p4.stay (fun X C hX => K X _ C hX (blk_ne hX HB2 (by decide)) (by decide)); have r5 := p5.stay (fun X C hX => K X _ C hX (blk_ne hX HB2 (by decide)) (by decide)); have r6 := p6.stay (fun X C hX => K X _ C hX (blk_ne hX HB2 (by decide)) (by decide)); obtain ⟨a3, c3, hv3, -⟩ := HO3.inL; subst hv3
  refine hK.out _ _ ?_ (fun hHeld => ?_)
  · exact trivial
  clear hK K
  (try simp only [Act.put, List.getElem_toArray, List.getElem_cons_zero, List.getElem_cons_succ, List.setIfInBounds_toArray, List.set_cons_zero, List.set_cons_succ])
  refine wpAnyH_take (i := 6) (v := ?_) rfl (by kernel_rfl) (by kernel_rfl) (by kernel_rfl) (fun _ _ _ h => h) (Or.inl ⟨by rfl, ?_⟩) (by assumption) ?_
  rotate_left
  · (intro w hSw; (try dsimp only at hSw); go_simp; (try with_reducible rfl))
  (try simp only [Act.put, List.getElem_toArray, List.getElem_cons_zero, List.getElem_cons_succ, List.setIfInBounds_toArray, List.set_cons_zero, List.set_cons_succ])
  refine wpAnyH_done (by kernel_rfl) ?_ _
  refine NoPanic.normal ?_
  go_wp2
  go_ret
  refine ⟨_, _, rfl, HR3, by rw [HF.out]; exact HW.out, fun hf => ?_, K3, E3⟩
  rw [HF.out] at hf
  obtain ⟨v1, v2⟩ := HV.out (by first | exact hf | trivial)
  rw [← v1, ← v2]
  exact ⟨rfl, ⟨(a3, c3), q.ho, q.sy, q.ca, q.ma, q.og⟩, HB3, HO3, r2, r3, r4, r5, r6⟩

set_option maxHeartbeats 3200000 in
theorem take_ho {g B D : Nat} {s : ByteArray} (x : Ld)
    (w : World) (hR : RdT w g s 0 (0, 0, -1)) (hA : LdAc w D B x) (hb : s.size ≤ 100000) (hDB : D ≤ B) (hDg : D ≤ g) (hz : x.ho = []) :
    Calls Tryz.prog 41 #[.pointer (some ⟨B, 0, none⟩), .pointer (some ⟨g, 0, none⟩), .int .i64 5] w (TkR g B D s 5 x w) := by
  have hls : s.data.toList.length = s.size := by simp
  have hg := hR.lt
  have hDw : D ≤ w.heap.size := by have := hA.lt; omega
  obtain ⟨hw1, hw2⟩ := rest_ways s.data.toList
  have HR := Lib.hid (fun (W : World) (h : RdT W g s 0 (0, 0, -1)) => readRest_t (0, 0, -1) W h (Nat.zero_le _) (by omega))
  have HF : Hid (formK 5 s.data.toList = true) := formK5 _
  have HV : Hid (true = true → ({ x with ho := x.ho ++ [⟨(rsV s.data.toList (0, 0, -1)).toArray⟩] } : Ld) = addLd x ⟨5, s⟩ ∧ okSt (⟨(rsV s.data.toList (0, 0, -1)).toArray⟩) = goodK 5 s.data.toList) := fun q => by
    rw [addLd5, goodK5]
    rw [hw2, byT]
    exact ⟨rfl, rfl⟩
  have HW := Lib.hid hw1
  have hzl : x.ho.length ≤ 90000 := by rw [hz]; simp
  clear hw1 hw2
  generalize rsV s.data.toList (0, 0, -1) = y at *
  generalize rsS s.data.toList (0, 0, -1) = st1 at *
  obtain ⟨q, HB0, o1, o2, o3, o4, o5, o6⟩ := hA
  have hnil : Hid (Value.slice q.ho.1 x.ho.length q.ho.2 = .slice none 0 0) := o2.nilv hz
  go_enter Tryz.func41, Tryz.ntmps41
  go_upto_region 14 with (fail)
  refine wp_region_noPanic ?_
  refine wp_region_held_drew (S := fun _ => True) (by kernel_rfl) ?_ (fun hHeld => ?_)
  · exact trivial
  refine wpAnyH_take (i := 0) (v := ?_) rfl (by kernel_rfl) (by kernel_rfl) (by kernel_rfl) (fun _ _ _ h => h) (Or.inl ⟨by rfl, ?_⟩) (by assumption) ?_
  rotate_left
  · (intro w hSw; (try dsimp only at hSw); go_simp; (try with_reducible rfl))
  (try simp only [Act.put, List.getElem_toArray, List.getElem_cons_zero, List.getElem_cons_succ, List.setIfInBounds_toArray, List.set_cons_zero, List.set_cons_succ])
  refine wpAnyH_take (i := 1) (v := ?_) rfl (by kernel_rfl) (by kernel_rfl) (by kernel_rfl) (fun _ _ _ h => h) (Or.inl ⟨by rfl, ?_⟩) (by assumption) ?_
  rotate_left
  · (intro w hSw; (try dsimp only at hSw); go_simp; (try with_reducible rfl))
  (try simp only [Act.put, List.getElem_toArray, List.getElem_cons_zero, List.getElem_cons_succ, List.setIfInBounds_toArray, List.set_cons_zero, List.set_cons_succ])
  refine wpAnyH_take (i := 2) (v := ?_) rfl (by kernel_rfl) (by kernel_rfl) (by kernel_rfl) (fun _ _ _ h => h) (Or.inl ⟨by rfl, ?_⟩) (by assumption) ?_
  rotate_left
  · (intro w hSw; (try dsimp only at hSw); go_simp; (try with_reducible rfl))
  (try simp only [Act.put, List.getElem_toArray, List.getElem_cons_zero, List.getElem_cons_succ, List.setIfInBounds_toArray, List.set_cons_zero, List.set_cons_succ])
  refine wpAnyH_take (i := 3) (v := ?_) rfl (by kernel_rfl) (by kernel_rfl) (by kernel_rfl) (fun _ _ _ h => h) (Or.inl ⟨by rfl, ?_⟩) (by assumption) ?_
  rotate_left
  · (intro w hSw; (try dsimp only at hSw); go_simp; (try with_reducible rfl))
  (try simp only [Act.put, List.getElem_toArray, List.getElem_cons_zero, List.getElem_cons_succ, List.setIfInBounds_toArray, List.set_cons_zero, List.set_cons_succ])
  refine wpAnyH_ready (rs := [4]) (by kernel_rfl) (by simp) ?_
  refine AllReadyH.cons rfl (fun K hK => ?_) AllReadyH.nil
  simp only [List.getElem_toArray, List.getElem_cons_zero, List.getElem_cons_succ]
  go_simp
  go_at_call 54; (refine (HR.out _ (show RdT w.drew g s 0 (0, 0, -1) from hR)).mono ?_); rintro e w2 ⟨rfl, HR2, g2⟩; have K2 : KeepR B g mgog w w2 := fun _ _ _ hX _ h2 _ => grown_belowT' g2 hX (by simpa using h2); have E2 : Below D w w2 := (Below.refl D w).drew.grown g2 hDw (fun k e => by cases e; exact hDg); have hst : ∀ X T C, Blk w X T C → T ≠ 147 → Blk w2 X T C := fun X T C hX hT => Blk.reads (w := w.drew) hX hR hT g2; have HB2 := hst _ _ _ HB0 (by decide); have p1 := o1.stay (fun X C hX => hst _ _ _ hX (by decide)); have p2 := o2.stay (fun X C hX => hst _ _ _ hX (by decide)); have p3 := o3.stay (fun X C hX => hst _ _ _ hX (by decide)); have p4 := o4.stay (fun X C hX => hst _ _ _ hX (by decide)); have p5 := o5.stay (fun X C hX => hst _ _ _ hX (by decide)); have p6 := o6.stay (fun X C hX => hst _ _ _ hX (by decide)); clear hst o1 o2 o3 o4 o5 o6 g2 HB0 HR hR
  refine hK.out _ _ ?_ (fun hHeld => ?_)
  · exact trivial
  clear hK K
  (try simp only [Act.put, List.getElem_toArray, List.getElem_cons_zero, List.getElem_cons_succ, List.setIfInBounds_toArray, List.set_cons_zero, List.set_cons_succ])
  refine wpAnyH_ready (rs := [5]) (by kernel_rfl) (by simp) ?_
  refine AllReadyH.cons rfl (fun K hK => ?_) AllReadyH.nil
  simp only [List.getElem_toArray, List.getElem_cons_zero, List.getElem_cons_succ]
  go_simp
  go_at_call 53; (refine (takeOne_st B 6 D ⟨y.toArray⟩ x.ho (.slice q.ho.1 x.ho.length q.ho.2) _ w2 HB2 rfl p2 (by rw [hnil.out]; rfl) (by omega) (Nat.le_trans hDw E2.size)).mono ?_); rintro e w3 ⟨rfl, v', HB3, HO3, K, Eb⟩; have K3 : KeepR B g mgog w w3 := K2.trans (.x K (by simp)); have E3 := E2.trans (Eb D (Nat.le_refl _) hDB); have HR3 : RdT w3 g s 0 st1 := HR2.stay (fun X T C hX hT => K X T C hX (blk_ne hX HB2 (by rcases hT with rfl | rfl <;> decide)) (by rcases hT with rfl | rfl <;> decide)); have r1 := p1.stay (fun X C hX => K X _ C hX (blk_ne hX HB2 (by decide)) (by decide)); have r3 := p3.stay (fun X C hX => K X _ C hX (blk_ne hX HB2 (by decide)) (by decide)); have r4 := p4.stay (fun X C hX => K X _ C hX (blk_ne hX HB2 (by decide)) (by decide)); have r5 := p5.stay (fun X C hX => K X _ C hX (blk_ne hX HB2 (by decide)) (by decide)); have r6 := p6.stay (fun X C hX => K X _ C hX (blk_ne hX HB2 (by decide)) (by decide)); obtain ⟨a3, c3, hv3, -⟩ := HO3.inL; subst hv3
  refine hK.out _ _ ?_ (fun hHeld => ?_)
  · exact trivial
  clear hK K
  (try simp only [Act.put, List.getElem_toArray, List.getElem_cons_zero, List.getElem_cons_succ, List.setIfInBounds_toArray, List.set_cons_zero, List.set_cons_succ])
  refine wpAnyH_take (i := 6) (v := ?_) rfl (by kernel_rfl) (by kernel_rfl) (by kernel_rfl) (fun _ _ _ h => h) (Or.inl ⟨by rfl, ?_⟩) (by assumption) ?_
  rotate_left
  · (intro w hSw; (try dsimp only at hSw); go_simp; (try with_reducible rfl))
  (try simp only [Act.put, List.getElem_toArray, List.getElem_cons_zero, List.getElem_cons_succ, List.setIfInBounds_toArray, List.set_cons_zero, List.set_cons_succ])
  refine wpAnyH_done (by kernel_rfl) ?_ _
  refine NoPanic.normal ?_
  go_wp2
  go_ret
  refine ⟨_, _, rfl, HR3, by rw [HF.out]; exact HW.out, fun hf => ?_, K3, E3⟩
  rw [HF.out] at hf
  obtain ⟨v1, v2⟩ := HV.out (by first | exact hf | trivial)
  rw [← v1, ← v2]
  exact ⟨rfl, ⟨q.de, (a3, c3), q.sy, q.ca, q.ma, q.og⟩, HB3, r1, HO3, r3, r4, r5, r6⟩

set_option maxHeartbeats 3200000 in
theorem take_sy {g B D : Nat} {s : ByteArray} (x : Ld)
    (w : World) (hR : RdT w g s 0 (0, 0, -1)) (hA : LdAc w D B x) (hb : s.size ≤ 100000) (hDB : D ≤ B) (hDg : D ≤ g) (hz : x.sy = []) :
    Calls Tryz.prog 41 #[.pointer (some ⟨B, 0, none⟩), .pointer (some ⟨g, 0, none⟩), .int .i64 6] w (TkR g B D s 6 x w) := by
  have hls : s.data.toList.length = s.size := by simp
  have hg := hR.lt
  have hDw : D ≤ w.heap.size := by have := hA.lt; omega
  obtain ⟨hw1, hw2⟩ := rest_ways s.data.toList
  have HR := Lib.hid (fun (W : World) (h : RdT W g s 0 (0, 0, -1)) => readRest_t (0, 0, -1) W h (Nat.zero_le _) (by omega))
  have HF : Hid (formK 6 s.data.toList = true) := formK6 _
  have HV : Hid (true = true → ({ x with sy := x.sy ++ [⟨(rsV s.data.toList (0, 0, -1)).toArray⟩] } : Ld) = addLd x ⟨6, s⟩ ∧ okSt (⟨(rsV s.data.toList (0, 0, -1)).toArray⟩) = goodK 6 s.data.toList) := fun q => by
    rw [addLd6, goodK6]
    rw [hw2, byT]
    exact ⟨rfl, rfl⟩
  have HW := Lib.hid hw1
  have hzl : x.sy.length ≤ 90000 := by rw [hz]; simp
  clear hw1 hw2
  generalize rsV s.data.toList (0, 0, -1) = y at *
  generalize rsS s.data.toList (0, 0, -1) = st1 at *
  obtain ⟨q, HB0, o1, o2, o3, o4, o5, o6⟩ := hA
  have hnil : Hid (Value.slice q.sy.1 x.sy.length q.sy.2 = .slice none 0 0) := o3.nilv hz
  go_enter Tryz.func41, Tryz.ntmps41
  go_upto_region 16 with (fail)
  refine wp_region_noPanic ?_
  refine wp_region_held_drew (S := fun _ => True) (by kernel_rfl) ?_ (fun hHeld => ?_)
  · exact trivial
  refine wpAnyH_take (i := 0) (v := ?_) rfl (by kernel_rfl) (by kernel_rfl) (by kernel_rfl) (fun _ _ _ h => h) (Or.inl ⟨by rfl, ?_⟩) (by assumption) ?_
  rotate_left
  · (intro w hSw; (try dsimp only at hSw); go_simp; (try with_reducible rfl))
  (try simp only [Act.put, List.getElem_toArray, List.getElem_cons_zero, List.getElem_cons_succ, List.setIfInBounds_toArray, List.set_cons_zero, List.set_cons_succ])
  refine wpAnyH_take (i := 1) (v := ?_) rfl (by kernel_rfl) (by kernel_rfl) (by kernel_rfl) (fun _ _ _ h => h) (Or.inl ⟨by rfl, ?_⟩) (by assumption) ?_
  rotate_left
  · (intro w hSw; (try dsimp only at hSw); go_simp; (try with_reducible rfl))
  (try simp only [Act.put, List.getElem_toArray, List.getElem_cons_zero, List.getElem_cons_succ, List.setIfInBounds_toArray, List.set_cons_zero, List.set_cons_succ])
  refine wpAnyH_take (i := 2) (v := ?_) rfl (by kernel_rfl) (by kernel_rfl) (by kernel_rfl) (fun _ _ _ h => h) (Or.inl ⟨by rfl, ?_⟩) (by assumption) ?_
  rotate_left
  · (intro w hSw; (try dsimp only at hSw); go_simp; (try with_reducible rfl))
  (try simp only [Act.put, List.getElem_toArray, List.getElem_cons_zero, List.getElem_cons_succ, List.setIfInBounds_toArray, List.set_cons_zero, List.set_cons_succ])
  refine wpAnyH_take (i := 3) (v := ?_) rfl (by kernel_rfl) (by kernel_rfl) (by kernel_rfl) (fun _ _ _ h => h) (Or.inl ⟨by rfl, ?_⟩) (by assumption) ?_
  rotate_left
  · (intro w hSw; (try dsimp only at hSw); go_simp; (try with_reducible rfl))
  (try simp only [Act.put, List.getElem_toArray, List.getElem_cons_zero, List.getElem_cons_succ, List.setIfInBounds_toArray, List.set_cons_zero, List.set_cons_succ])
  refine wpAnyH_ready (rs := [4]) (by kernel_rfl) (by simp) ?_
  refine AllReadyH.cons rfl (fun K hK => ?_) AllReadyH.nil
  simp only [List.getElem_toArray, List.getElem_cons_zero, List.getElem_cons_succ]
  go_simp
  go_at_call 54; (refine (HR.out _ (show RdT w.drew g s 0 (0, 0, -1) from hR)).mono ?_); rintro e w2 ⟨rfl, HR2, g2⟩; have K2 : KeepR B g mgog w w2 := fun _ _ _ hX _ h2 _ => grown_belowT' g2 hX (by simpa using h2); have E2 : Below D w w2 := (Below.refl D w).drew.grown g2 hDw (fun k e => by cases e; exact hDg); have hst : ∀ X T C, Blk w X T C → T ≠ 147 → Blk w2 X T C := fun X T C hX hT => Blk.reads (w := w.drew) hX hR hT g2; have HB2 := hst _ _ _ HB0 (by decide); have p1 := o1.stay (fun X C hX => hst _ _ _ hX (by decide)); have p2 := o2.stay (fun X C hX => hst _ _ _ hX (by decide)); have p3 := o3.stay (fun X C hX => hst _ _ _ hX (by decide)); have p4 := o4.stay (fun X C hX => hst _ _ _ hX (by decide)); have p5 := o5.stay (fun X C hX => hst _ _ _ hX (by decide)); have p6 := o6.stay (fun X C hX => hst _ _ _ hX (by decide)); clear hst o1 o2 o3 o4 o5 o6 g2 HB0 HR hR
  refine hK.out _ _ ?_ (fun hHeld => ?_)
  · exact trivial
  clear hK K
  (try simp only [Act.put, List.getElem_toArray, List.getElem_cons_zero, List.getElem_cons_succ, List.setIfInBounds_toArray, List.set_cons_zero, List.set_cons_succ])
  refine wpAnyH_ready (rs := [5]) (by kernel_rfl) (by simp) ?_
  refine AllReadyH.cons rfl (fun K hK => ?_) AllReadyH.nil
  simp only [List.getElem_toArray, List.getElem_cons_zero, List.getElem_cons_succ]
  go_simp
  go_at_call 53; (refine (takeOne_st B 7 D ⟨y.toArray⟩ x.sy (.slice q.sy.1 x.sy.length q.sy.2) _ w2 HB2 rfl p3 (by rw [hnil.out]; rfl) (by omega) (Nat.le_trans hDw E2.size)).mono ?_); rintro e w3 ⟨rfl, v', HB3, HO3, K, Eb⟩; have K3 : KeepR B g mgog w w3 := K2.trans (.x K (by simp)); have E3 := E2.trans (Eb D (Nat.le_refl _) hDB); have HR3 : RdT w3 g s 0 st1 := HR2.stay (fun X T C hX hT => K X T C hX (blk_ne hX HB2 (by rcases hT with rfl | rfl <;> decide)) (by rcases hT with rfl | rfl <;> decide)); have r1 := p1.stay (fun X C hX => K X _ C hX (blk_ne hX HB2 (by decide)) (by decide)); have r2 := p2.stay (fun X C hX => K X _ C hX (blk_ne hX HB2 (by decide)) (by decide)); have r4 := p4.stay (fun X C hX => K X _ C hX (blk_ne hX HB2 (by decide)) (by decide)); have r5 := p5.stay (fun X C hX => K X _ C hX (blk_ne hX HB2 (by decide)) (by decide)); have r6 := p6.stay (fun X C hX => K X _ C hX (blk_ne hX HB2 (by decide)) (by decide)); obtain ⟨a3, c3, hv3, -⟩ := HO3.inL; subst hv3
  refine hK.out _ _ ?_ (fun hHeld => ?_)
  · exact trivial
  clear hK K
  (try simp only [Act.put, List.getElem_toArray, List.getElem_cons_zero, List.getElem_cons_succ, List.setIfInBounds_toArray, List.set_cons_zero, List.set_cons_succ])
  refine wpAnyH_take (i := 6) (v := ?_) rfl (by kernel_rfl) (by kernel_rfl) (by kernel_rfl) (fun _ _ _ h => h) (Or.inl ⟨by rfl, ?_⟩) (by assumption) ?_
  rotate_left
  · (intro w hSw; (try dsimp only at hSw); go_simp; (try with_reducible rfl))
  (try simp only [Act.put, List.getElem_toArray, List.getElem_cons_zero, List.getElem_cons_succ, List.setIfInBounds_toArray, List.set_cons_zero, List.set_cons_succ])
  refine wpAnyH_done (by kernel_rfl) ?_ _
  refine NoPanic.normal ?_
  go_wp2
  go_ret
  refine ⟨_, _, rfl, HR3, by rw [HF.out]; exact HW.out, fun hf => ?_, K3, E3⟩
  rw [HF.out] at hf
  obtain ⟨v1, v2⟩ := HV.out (by first | exact hf | trivial)
  rw [← v1, ← v2]
  exact ⟨rfl, ⟨q.de, q.ho, (a3, c3), q.ca, q.ma, q.og⟩, HB3, r1, r2, HO3, r4, r5, r6⟩

set_option maxHeartbeats 3200000 in
theorem take_ca {g B D : Nat} {s : ByteArray} (x : Ld)
    (w : World) (hR : RdT w g s 0 (0, 0, -1)) (hA : LdAc w D B x) (hb : s.size ≤ 100000) (hDB : D ≤ B) (hDg : D ≤ g) (hz : x.ca = []) :
    Calls Tryz.prog 41 #[.pointer (some ⟨B, 0, none⟩), .pointer (some ⟨g, 0, none⟩), .int .i64 7] w (TkR g B D s 7 x w) := by
  have hls : s.data.toList.length = s.size := by simp
  have hg := hR.lt
  have hDw : D ≤ w.heap.size := by have := hA.lt; omega
  obtain ⟨hw1, hw2⟩ := rc_ways s.data.toList
  have HR := Lib.hid (fun (W : World) (h : RdT W g s 0 (0, 0, -1)) => readCaps_t (0, 0, -1) W h (Nat.zero_le _) (by omega))
  have HF : Hid (formK 7 s.data.toList = decide (s.data.toList.length = 4)) := formK7 _
  have HV : Hid (decide (s.data.toList.length = 4) = true → ({ x with ca := x.ca ++ [rcV s.data.toList (0, 0, -1)] } : Ld) = addLd x ⟨7, s⟩ ∧ okCp (rcV s.data.toList (0, 0, -1)) = goodK 7 s.data.toList) := fun q => by
    rw [addLd7, goodK7]
    rw [hw2 (of_decide_eq_true q)]
    exact ⟨rfl, rfl⟩
  have HW := Lib.hid hw1
  have hzl : x.ca.length ≤ 90000 := by rw [hz]; simp
  have hrg : rgCp (rcV s.data.toList (0, 0, -1)) := rg_rc _ _
  clear hw1 hw2
  generalize rcV s.data.toList (0, 0, -1) = y at *
  generalize rcS s.data.toList (0, 0, -1) = st1 at *
  obtain ⟨q, HB0, o1, o2, o3, o4, o5, o6⟩ := hA
  have hnil : Hid (Value.slice q.ca.1 x.ca.length q.ca.2 = .slice none 0 0) := o4.nilv hz
  go_enter Tryz.func41, Tryz.ntmps41
  go_upto_region 18 with (fail)
  refine wp_region_noPanic ?_
  refine wp_region_held_drew (S := fun _ => True) (by kernel_rfl) ?_ (fun hHeld => ?_)
  · exact trivial
  refine wpAnyH_take (i := 0) (v := ?_) rfl (by kernel_rfl) (by kernel_rfl) (by kernel_rfl) (fun _ _ _ h => h) (Or.inl ⟨by rfl, ?_⟩) (by assumption) ?_
  rotate_left
  · (intro w hSw; (try dsimp only at hSw); go_simp; (try with_reducible rfl))
  (try simp only [Act.put, List.getElem_toArray, List.getElem_cons_zero, List.getElem_cons_succ, List.setIfInBounds_toArray, List.set_cons_zero, List.set_cons_succ])
  refine wpAnyH_take (i := 1) (v := ?_) rfl (by kernel_rfl) (by kernel_rfl) (by kernel_rfl) (fun _ _ _ h => h) (Or.inl ⟨by rfl, ?_⟩) (by assumption) ?_
  rotate_left
  · (intro w hSw; (try dsimp only at hSw); go_simp; (try with_reducible rfl))
  (try simp only [Act.put, List.getElem_toArray, List.getElem_cons_zero, List.getElem_cons_succ, List.setIfInBounds_toArray, List.set_cons_zero, List.set_cons_succ])
  refine wpAnyH_take (i := 2) (v := ?_) rfl (by kernel_rfl) (by kernel_rfl) (by kernel_rfl) (fun _ _ _ h => h) (Or.inl ⟨by rfl, ?_⟩) (by assumption) ?_
  rotate_left
  · (intro w hSw; (try dsimp only at hSw); go_simp; (try with_reducible rfl))
  (try simp only [Act.put, List.getElem_toArray, List.getElem_cons_zero, List.getElem_cons_succ, List.setIfInBounds_toArray, List.set_cons_zero, List.set_cons_succ])
  refine wpAnyH_take (i := 3) (v := ?_) rfl (by kernel_rfl) (by kernel_rfl) (by kernel_rfl) (fun _ _ _ h => h) (Or.inl ⟨by rfl, ?_⟩) (by assumption) ?_
  rotate_left
  · (intro w hSw; (try dsimp only at hSw); go_simp; (try with_reducible rfl))
  (try simp only [Act.put, List.getElem_toArray, List.getElem_cons_zero, List.getElem_cons_succ, List.setIfInBounds_toArray, List.set_cons_zero, List.set_cons_succ])
  refine wpAnyH_ready (rs := [4]) (by kernel_rfl) (by simp) ?_
  refine AllReadyH.cons rfl (fun K hK => ?_) AllReadyH.nil
  simp only [List.getElem_toArray, List.getElem_cons_zero, List.getElem_cons_succ]
  go_simp
  go_at_call 57; (refine (HR.out _ (show RdT w.drew g s 0 (0, 0, -1) from hR)).mono ?_); rintro e w2 ⟨rfl, HR2, g2⟩; have K2 : KeepR B g mgog w w2 := fun _ _ _ hX _ h2 _ => grown_belowT' g2 hX (by simpa using h2); have E2 : Below D w w2 := (Below.refl D w).drew.grown g2 hDw (fun k e => by cases e; exact hDg); have hst : ∀ X T C, Blk w X T C → T ≠ 147 → Blk w2 X T C := fun X T C hX hT => Blk.reads (w := w.drew) hX hR hT g2; have HB2 := hst _ _ _ HB0 (by decide); have p1 := o1.stay (fun X C hX => hst _ _ _ hX (by decide)); have p2 := o2.stay (fun X C hX => hst _ _ _ hX (by decide)); have p3 := o3.stay (fun X C hX => hst _ _ _ hX (by decide)); have p4 := o4.stay (fun X C hX => hst _ _ _ hX (by decide)); have p5 := o5.stay (fun X C hX => hst _ _ _ hX (by decide)); have p6 := o6.stay (fun X C hX => hst _ _ _ hX (by decide)); clear hst o1 o2 o3 o4 o5 o6 g2 HB0 HR hR
  refine hK.out _ _ ?_ (fun hHeld => ?_)
  · exact trivial
  clear hK K
  (try simp only [Act.put, List.getElem_toArray, List.getElem_cons_zero, List.getElem_cons_succ, List.setIfInBounds_toArray, List.set_cons_zero, List.set_cons_succ])
  refine wpAnyH_ready (rs := [5]) (by kernel_rfl) (by simp) ?_
  refine AllReadyH.cons rfl (fun K hK => ?_) AllReadyH.nil
  simp only [List.getElem_toArray, List.getElem_cons_zero, List.getElem_cons_succ]
  go_simp
  go_at_call 56; (refine (takeOne_cp B 8 D y hrg x.ca (.slice q.ca.1 x.ca.length q.ca.2) _ w2 HB2 rfl p4 (by rw [hnil.out]; rfl) (by omega) (Nat.le_trans hDw E2.size)).mono ?_); rintro e w3 ⟨rfl, v', HB3, HO3, K, Eb⟩; have K3 : KeepR B g mgog w w3 := K2.trans (.x K (by simp)); have E3 := E2.trans (Eb D (Nat.le_refl _) hDB); have HR3 : RdT w3 g s 0 st1 := HR2.stay (fun X T C hX hT => K X T C hX (blk_ne hX HB2 (by rcases hT with rfl | rfl <;> decide)) (by rcases hT with rfl | rfl <;> decide)); have r1 := p1.stay (fun X C hX => K X _ C hX (blk_ne hX HB2 (by decide)) (by decide)); have r2 := p2.stay (fun X C hX => K X _ C hX (blk_ne hX HB2 (by decide)) (by decide)); have r3 := p3.stay (fun X C hX => K X _ C hX (blk_ne hX HB2 (by decide)) (by decide)); have r5 := p5.stay (fun X C hX => K X _ C hX (blk_ne hX HB2 (by decide)) (by decide)); have r6 := p6.stay (fun X C hX => K X _ C hX (blk_ne hX HB2 (by decide)) (by decide)); obtain ⟨a3, c3, hv3, -⟩ := HO3.inL; subst hv3
  refine hK.out _ _ ?_ (fun hHeld => ?_)
  · exact trivial
  clear hK K
  (try simp only [Act.put, List.getElem_toArray, List.getElem_cons_zero, List.getElem_cons_succ, List.setIfInBounds_toArray, List.set_cons_zero, List.set_cons_succ])
  refine wpAnyH_take (i := 6) (v := ?_) rfl (by kernel_rfl) (by kernel_rfl) (by kernel_rfl) (fun _ _ _ h => h) (Or.inl ⟨by rfl, ?_⟩) (by assumption) ?_
  rotate_left
  · (intro w hSw; (try dsimp only at hSw); go_simp; (try with_reducible rfl))
  (try simp only [Act.put, List.getElem_toArray, List.getElem_cons_zero, List.getElem_cons_succ, List.setIfInBounds_toArray, List.set_cons_zero, List.set_cons_succ])
  refine wpAnyH_done (by kernel_rfl) ?_ _
  refine NoPanic.normal ?_
  go_wp2
  go_ret
  refine ⟨_, _, rfl, HR3, by rw [HF.out]; exact HW.out, fun hf => ?_, K3, E3⟩
  rw [HF.out] at hf
  obtain ⟨v1, v2⟩ := HV.out (by first | exact hf | trivial)
  rw [← v1, ← v2]
  exact ⟨rfl, ⟨q.de, q.ho, q.sy, (a3, c3), q.ma, q.og⟩, HB3, r1, r2, r3, HO3, r5, r6⟩

set_option maxHeartbeats 3200000 in
theorem take_ma {g B D : Nat} {s : ByteArray} (x : Ld)
    (w : World) (hR : RdT w g s 0 (0, 0, -1)) (hA : LdAc w D B x) (hb : s.size ≤ 100000) (hDB : D ≤ B) (hDg : D ≤ g) (hz : x.ma.length ≤ 90000) :
    Calls Tryz.prog 41 #[.pointer (some ⟨B, 0, none⟩), .pointer (some ⟨g, 0, none⟩), .int .i64 8] w (TkR g B D s 8 x w) := by
  have hls : s.data.toList.length = s.size := by simp
  have hg := hR.lt
  have hDw : D ≤ w.heap.size := by have := hA.lt; omega
  obtain ⟨hw1, hw2⟩ := rm_ways s.data.toList
  have HR := Lib.hid (fun (W : World) (h : RdT W g s 0 (0, 0, -1)) => readManage_t (0, 0, -1) W h (Nat.zero_le _) (by omega))
  have HF : Hid (formK 8 s.data.toList = decide (mgM s.data.toList + 7 ≤ s.data.toList.length ∧ s.data.toList.length = mgM s.data.toList + 7 + mgO s.data.toList)) := formK8 _
  have HV : Hid (decide (mgM s.data.toList + 7 ≤ s.data.toList.length ∧ s.data.toList.length = mgM s.data.toList + 7 + mgO s.data.toList) = true → ({ x with ma := x.ma ++ [rmV s.data.toList (0, 0, -1)] } : Ld) = addLd x ⟨8, s⟩ ∧ okMg (rmV s.data.toList (0, 0, -1)) = goodK 8 s.data.toList) := fun q => by
    rw [addLd8, goodK8]
    rw [hw2 (of_decide_eq_true q)]
    exact ⟨rfl, rfl⟩
  have HW := Lib.hid hw1
  have hrg : rgMg (rmV s.data.toList (0, 0, -1)) := rg_rm _ _ (by omega)
  clear hw1 hw2
  generalize rmV s.data.toList (0, 0, -1) = y at *
  generalize rmS s.data.toList (0, 0, -1) = st1 at *
  obtain ⟨q, HB0, o1, o2, o3, o4, o5, o6⟩ := hA
  go_enter Tryz.func41, Tryz.ntmps41
  go_upto_region 20 with (fail)
  refine wp_region_noPanic ?_
  refine wp_region_held_drew (S := fun _ => True) (by kernel_rfl) ?_ (fun hHeld => ?_)
  · exact trivial
  refine wpAnyH_take (i := 0) (v := ?_) rfl (by kernel_rfl) (by kernel_rfl) (by kernel_rfl) (fun _ _ _ h => h) (Or.inl ⟨by rfl, ?_⟩) (by assumption) ?_
  rotate_left
  · (intro w hSw; (try dsimp only at hSw); go_simp; (try with_reducible rfl))
  (try simp only [Act.put, List.getElem_toArray, List.getElem_cons_zero, List.getElem_cons_succ, List.setIfInBounds_toArray, List.set_cons_zero, List.set_cons_succ])
  refine wpAnyH_take (i := 1) (v := ?_) rfl (by kernel_rfl) (by kernel_rfl) (by kernel_rfl) (fun _ _ _ h => h) (Or.inl ⟨by rfl, ?_⟩) (by assumption) ?_
  rotate_left
  · (intro w hSw; (try dsimp only at hSw); go_simp; (try with_reducible rfl))
  (try simp only [Act.put, List.getElem_toArray, List.getElem_cons_zero, List.getElem_cons_succ, List.setIfInBounds_toArray, List.set_cons_zero, List.set_cons_succ])
  refine wpAnyH_take (i := 2) (v := ?_) rfl (by kernel_rfl) (by kernel_rfl) (by kernel_rfl) (fun _ _ _ h => h) (Or.inl ⟨by rfl, ?_⟩) (by assumption) ?_
  rotate_left
  · (intro w hSw; (try dsimp only at hSw); go_simp; (try with_reducible rfl))
  (try simp only [Act.put, List.getElem_toArray, List.getElem_cons_zero, List.getElem_cons_succ, List.setIfInBounds_toArray, List.set_cons_zero, List.set_cons_succ])
  refine wpAnyH_take (i := 3) (v := ?_) rfl (by kernel_rfl) (by kernel_rfl) (by kernel_rfl) (fun _ _ _ h => h) (Or.inl ⟨by rfl, ?_⟩) (by assumption) ?_
  rotate_left
  · (intro w hSw; (try dsimp only at hSw); go_simp; (try with_reducible rfl))
  (try simp only [Act.put, List.getElem_toArray, List.getElem_cons_zero, List.getElem_cons_succ, List.setIfInBounds_toArray, List.set_cons_zero, List.set_cons_succ])
  refine wpAnyH_ready (rs := [4]) (by kernel_rfl) (by simp) ?_
  refine AllReadyH.cons rfl (fun K hK => ?_) AllReadyH.nil
  simp only [List.getElem_toArray, List.getElem_cons_zero, List.getElem_cons_succ]
  go_simp
  go_at_call 60; (refine (HR.out _ (show RdT w.drew g s 0 (0, 0, -1) from hR)).mono ?_); rintro e w2 ⟨rfl, HR2, g2⟩; have K2 : KeepR B g mgog w w2 := fun _ _ _ hX _ h2 _ => grown_belowT' g2 hX (by simpa using h2); have E2 : Below D w w2 := (Below.refl D w).drew.grown g2 hDw (fun k e => by cases e; exact hDg); have hst : ∀ X T C, Blk w X T C → T ≠ 147 → Blk w2 X T C := fun X T C hX hT => Blk.reads (w := w.drew) hX hR hT g2; have HB2 := hst _ _ _ HB0 (by decide); have p1 := o1.stay (fun X C hX => hst _ _ _ hX (by decide)); have p2 := o2.stay (fun X C hX => hst _ _ _ hX (by decide)); have p3 := o3.stay (fun X C hX => hst _ _ _ hX (by decide)); have p4 := o4.stay (fun X C hX => hst _ _ _ hX (by decide)); have p5 := o5.stay (fun X C hX => hst _ _ _ hX (by decide)); have p6 := o6.stay (fun X C hX => hst _ _ _ hX (by decide)); clear hst o1 o2 o3 o4 o5 o6 g2 HB0 HR hR
  refine hK.out _ _ ?_ (fun hHeld => ?_)
  · exact trivial
  clear hK K
  (try simp only [Act.put, List.getElem_toArray, List.getElem_cons_zero, List.getElem_cons_succ, List.setIfInBounds_toArray, List.set_cons_zero, List.set_cons_succ])
  refine wpAnyH_ready (rs := [5]) (by kernel_rfl) (by simp) ?_
  refine AllReadyH.cons rfl (fun K hK => ?_) AllReadyH.nil
  simp only [List.getElem_toArray, List.getElem_cons_zero, List.getElem_cons_succ]
  go_simp
  go_at_call 59; (refine (takeOne_mg B 9 D y hrg x.ma (.slice q.ma.1 x.ma.length q.ma.2) _ w2 HB2 rfl p5 (by omega) (Nat.le_trans hDw E2.size)).mono ?_); rintro e w3 ⟨rfl, v', HB3, HO3, K, Eb⟩; have K3 : KeepR B g mgog w w3 := K2.trans (.x K (by simp [mgog])); have E3 := E2.trans (Eb D (Nat.le_refl _) hDB); have HR3 : RdT w3 g s 0 st1 := HR2.stay (fun X T C hX hT => K X T C hX (blk_ne hX HB2 (by rcases hT with rfl | rfl <;> decide)) (by rcases hT with rfl | rfl <;> decide)); have r1 := p1.stay (fun X C hX => K X _ C hX (blk_ne hX HB2 (by decide)) (by decide)); have r2 := p2.stay (fun X C hX => K X _ C hX (blk_ne hX HB2 (by decide)) (by decide)); have r3 := p3.stay (fun X C hX => K X _ C hX (blk_ne hX HB2 (by decide)) (by decide)); have r4 := p4.stay (fun X C hX => K X _ C hX (blk_ne hX HB2 (by decide)) (by decide)); have r6 := p6.stay (fun X C hX => K X _ C hX (blk_ne hX HB2 (by decide)) (by decide)); obtain ⟨a3, c3, hv3, -⟩ := HO3.inL; subst hv3
  refine hK.out _ _ ?_ (fun hHeld => ?_)
  · exact trivial
  clear hK K
  (try simp only [Act.put, List.getElem_toArray, List.getElem_cons_zero, List.getElem_cons_succ, List.setIfInBounds_toArray, List.set_cons_zero, List.set_cons_succ])
  refine wpAnyH_take (i := 6) (v := ?_) rfl (by kernel_rfl) (by kernel_rfl) (by kernel_rfl) (fun _ _ _ h => h) (Or.inl ⟨by rfl, ?_⟩) (by assumption) ?_
  rotate_left
  · (intro w hSw; (try dsimp only at hSw); go_simp; (try with_reducible rfl))
  (try simp only [Act.put, List.getElem_toArray, List.getElem_cons_zero, List.getElem_cons_succ, List.setIfInBounds_toArray, List.set_cons_zero, List.set_cons_succ])
  refine wpAnyH_done (by kernel_rfl) ?_ _
  refine NoPanic.normal ?_
  go_wp2
  go_ret
  refine ⟨_, _, rfl, HR3, by rw [HF.out]; exact HW.out, fun hf => ?_, K3, E3⟩
  rw [HF.out] at hf
  obtain ⟨v1, v2⟩ := HV.out (by first | exact hf | trivial)
  rw [← v1, ← v2]
  exact ⟨rfl, ⟨q.de, q.ho, q.sy, q.ca, (a3, c3), q.og⟩, HB3, r1, r2, r3, r4, HO3, r6⟩

set_option maxHeartbeats 3200000 in
theorem take_og {g B D : Nat} {s : ByteArray} (x : Ld)
    (w : World) (hR : RdT w g s 0 (0, 0, -1)) (hA : LdAc w D B x) (hb : s.size ≤ 100000) (hDB : D ≤ B) (hDg : D ≤ g) (hz : x.og.length ≤ 90000) :
    Calls Tryz.prog 41 #[.pointer (some ⟨B, 0, none⟩), .pointer (some ⟨g, 0, none⟩), .int .i64 127] w (TkR g B D s 127 x w) := by
  have hls : s.data.toList.length = s.size := by simp
  have hg := hR.lt
  have hDw : D ≤ w.heap.size := by have := hA.lt; omega
  obtain ⟨hw1, hw2⟩ := ro_ways s.data.toList
  have HR := Lib.hid (fun (W : World) (h : RdT W g s 0 (0, 0, -1)) => readOrg_t (0, 0, -1) W h (Nat.zero_le _) (by omega))
  have HF : Hid (formK 127 s.data.toList = decide (4 ≤ s.data.toList.length)) := formKo _
  have HV : Hid (decide (4 ≤ s.data.toList.length) = true → ({ x with og := x.og ++ [roV s.data.toList (0, 0, -1)] } : Ld) = addLd x ⟨127, s⟩ ∧ okOg (roV s.data.toList (0, 0, -1)) = goodK 127 s.data.toList) := fun q => by
    rw [addLdo, goodKo]
    rw [hw2 (of_decide_eq_true q)]
    exact ⟨rfl, rfl⟩
  have HW := Lib.hid hw1
  have hrg : rgOg (roV s.data.toList (0, 0, -1)) := rg_ro _ _ (by omega)
  clear hw1 hw2
  generalize roV s.data.toList (0, 0, -1) = y at *
  generalize roS s.data.toList (0, 0, -1) = st1 at *
  obtain ⟨q, HB0, o1, o2, o3, o4, o5, o6⟩ := hA
  go_enter Tryz.func41, Tryz.ntmps41
  go_upto_region 21 with (fail)
  refine wp_region_noPanic ?_
  refine wp_region_held_drew (S := fun _ => True) (by kernel_rfl) ?_ (fun hHeld => ?_)
  · exact trivial
  refine wpAnyH_take (i := 0) (v := ?_) rfl (by kernel_rfl) (by kernel_rfl) (by kernel_rfl) (fun _ _ _ h => h) (Or.inl ⟨by rfl, ?_⟩) (by assumption) ?_
  rotate_left
  · (intro w hSw; (try dsimp only at hSw); go_simp; (try with_reducible rfl))
  (try simp only [Act.put, List.getElem_toArray, List.getElem_cons_zero, List.getElem_cons_succ, List.setIfInBounds_toArray, List.set_cons_zero, List.set_cons_succ])
  refine wpAnyH_take (i := 1) (v := ?_) rfl (by kernel_rfl) (by kernel_rfl) (by kernel_rfl) (fun _ _ _ h => h) (Or.inl ⟨by rfl, ?_⟩) (by assumption) ?_
  rotate_left
  · (intro w hSw; (try dsimp only at hSw); go_simp; (try with_reducible rfl))
  (try simp only [Act.put, List.getElem_toArray, List.getElem_cons_zero, List.getElem_cons_succ, List.setIfInBounds_toArray, List.set_cons_zero, List.set_cons_succ])
  refine wpAnyH_take (i := 2) (v := ?_) rfl (by kernel_rfl) (by kernel_rfl) (by kernel_rfl) (fun _ _ _ h => h) (Or.inl ⟨by rfl, ?_⟩) (by assumption) ?_
  rotate_left
  · (intro w hSw; (try dsimp only at hSw); go_simp; (try with_reducible rfl))
  (try simp only [Act.put, List.getElem_toArray, List.getElem_cons_zero, List.getElem_cons_succ, List.setIfInBounds_toArray, List.set_cons_zero, List.set_cons_succ])
  refine wpAnyH_take (i := 3) (v := ?_) rfl (by kernel_rfl) (by kernel_rfl) (by kernel_rfl) (fun _ _ _ h => h) (Or.inl ⟨by rfl, ?_⟩) (by assumption) ?_
  rotate_left
  · (intro w hSw; (try dsimp only at hSw); go_simp; (try with_reducible rfl))
  (try simp only [Act.put, List.getElem_toArray, List.getElem_cons_zero, List.getElem_cons_succ, List.setIfInBounds_toArray, List.set_cons_zero, List.set_cons_succ])
  refine wpAnyH_ready (rs := [4]) (by kernel_rfl) (by simp) ?_
  refine AllReadyH.cons rfl (fun K hK => ?_) AllReadyH.nil
  simp only [List.getElem_toArray, List.getElem_cons_zero, List.getElem_cons_succ]
  go_simp
  go_at_call 63; (refine (HR.out _ (show RdT w.drew g s 0 (0, 0, -1) from hR)).mono ?_); rintro e w2 ⟨rfl, HR2, g2⟩; have K2 : KeepR B g mgog w w2 := fun _ _ _ hX _ h2 _ => grown_belowT' g2 hX (by simpa using h2); have E2 : Below D w w2 := (Below.refl D w).drew.grown g2 hDw (fun k e => by cases e; exact hDg); have hst : ∀ X T C, Blk w X T C → T ≠ 147 → Blk w2 X T C := fun X T C hX hT => Blk.reads (w := w.drew) hX hR hT g2; have HB2 := hst _ _ _ HB0 (by decide); have p1 := o1.stay (fun X C hX => hst _ _ _ hX (by decide)); have p2 := o2.stay (fun X C hX => hst _ _ _ hX (by decide)); have p3 := o3.stay (fun X C hX => hst _ _ _ hX (by decide)); have p4 := o4.stay (fun X C hX => hst _ _ _ hX (by decide)); have p5 := o5.stay (fun X C hX => hst _ _ _ hX (by decide)); have p6 := o6.stay (fun X C hX => hst _ _ _ hX (by decide)); clear hst o1 o2 o3 o4 o5 o6 g2 HB0 HR hR
  refine hK.out _ _ ?_ (fun hHeld => ?_)
  · exact trivial
  clear hK K
  (try simp only [Act.put, List.getElem_toArray, List.getElem_cons_zero, List.getElem_cons_succ, List.setIfInBounds_toArray, List.set_cons_zero, List.set_cons_succ])
  refine wpAnyH_ready (rs := [5]) (by kernel_rfl) (by simp) ?_
  refine AllReadyH.cons rfl (fun K hK => ?_) AllReadyH.nil
  simp only [List.getElem_toArray, List.getElem_cons_zero, List.getElem_cons_succ]
  go_simp
  go_at_call 62; (refine (takeOne_og B 10 D y hrg x.og (.slice q.og.1 x.og.length q.og.2) _ w2 HB2 rfl p6 (by omega) (Nat.le_trans hDw E2.size)).mono ?_); rintro e w3 ⟨rfl, v', HB3, HO3, K, Eb⟩; have K3 : KeepR B g mgog w w3 := K2.trans (.x K (by simp [mgog])); have E3 := E2.trans (Eb D (Nat.le_refl _) hDB); have HR3 : RdT w3 g s 0 st1 := HR2.stay (fun X T C hX hT => K X T C hX (blk_ne hX HB2 (by rcases hT with rfl | rfl <;> decide)) (by rcases hT with rfl | rfl <;> decide)); have r1 := p1.stay (fun X C hX => K X _ C hX (blk_ne hX HB2 (by decide)) (by decide)); have r2 := p2.stay (fun X C hX => K X _ C hX (blk_ne hX HB2 (by decide)) (by decide)); have r3 := p3.stay (fun X C hX => K X _ C hX (blk_ne hX HB2 (by decide)) (by decide)); have r4 := p4.stay (fun X C hX => K X _ C hX (blk_ne hX HB2 (by decide)) (by decide)); have r5 := p5.stay (fun X C hX => K X _ C hX (blk_ne hX HB2 (by decide)) (by decide)); obtain ⟨a3, c3, hv3, -⟩ := HO3.inL; subst hv3
  refine hK.out _ _ ?_ (fun hHeld => ?_)
  · exact trivial
  clear hK K
  (try simp only [Act.put, List.getElem_toArray, List.getElem_cons_zero, List.getElem_cons_succ, List.setIfInBounds_toArray, List.set_cons_zero, List.set_cons_succ])
  refine wpAnyH_take (i := 6) (v := ?_) rfl (by kernel_rfl) (by kernel_rfl) (by kernel_rfl) (fun _ _ _ h => h) (Or.inl ⟨by rfl, ?_⟩) (by assumption) ?_
  rotate_left
  · (intro w hSw; (try dsimp only at hSw); go_simp; (try with_reducible rfl))
  (try simp only [Act.put, List.getElem_toArray, List.getElem_cons_zero, List.getElem_cons_succ, List.setIfInBounds_toArray, List.set_cons_zero, List.set_cons_succ])
  refine wpAnyH_done (by kernel_rfl) ?_ _
  refine NoPanic.normal ?_
  go_wp2
  go_ret
  refine ⟨_, _, rfl, HR3, by rw [HF.out]; exact HW.out, fun hf => ?_, K3, E3⟩
  rw [HF.out] at hf
  obtain ⟨v1, v2⟩ := HV.out (by first | exact hf | trivial)
  rw [← v1, ← v2]
  exact ⟨rfl, ⟨q.de, q.ho, q.sy, q.ca, q.ma, (a3, c3)⟩, HB3, r1, r2, r3, r4, r5, HO3⟩

end Go.Proofs.YtocgnbbnaamjjaaGreatDoor

namespace Go.Proofs.YtocgnbbnaamjjaaGreatDoor
open Go.RowKit
attribute [local go_sem ↓] Go.wp_at_zero Go.wp_at_succ
set_option linter.unusedSimpArgs false
set_option linter.unusedVariables false
set_option maxRecDepth 100000

set_option maxHeartbeats 3200000 in
theorem misplaced_any (k : Int) (i c : Nat) (w : World) (hi : i ≤ 100000) (hk : 0 ≤ k ∧ k ≤ 1000) (hc : c ≤ 100000) :
    Calls Tryz.prog 40 #[.int .i64 k, .int .i64 i, .int .i64 c] w fun e w' => e = .returned (.int .i64 (misK k i c)) ∧ w = w' := by
  obtain ⟨E, hE⟩ : ∃ E, E = misK k i c := ⟨_, rfl⟩
  rw [← hE]
  unfold misK at hE
  by_cases a : (i : Int) < 3
  · by_cases b : k = (i : Int) + 1
    · by_cases c1 : 8 < k
      · by_cases c2 : k = 127
        · first
          | (exfalso; omega)
          | (subst c2
             obtain rfl : E = 0 := by
               rw [hE]
               (repeat' split) <;> omega
             clear hE
             have f1 : decide ((i : Int) < 3) = true := by first | decide | (simp; done) | (simp; omega)
             have f2 : (k != (i : Int) + 1) = false := by first | decide | (simp; done) | (simp; omega)
             have d1 : decide ((8 : Int) < 127) = true := by first | decide | (simp; done) | (simp; omega)
             go_enter Tryz.func40, Tryz.ntmps40
             go_wp2
             all_goals go_ret
             all_goals exact ⟨rfl, rfl⟩)
        · obtain rfl : E = 5 := by
            rw [hE]
            (repeat' split) <;> omega
          clear hE
          have f1 : decide ((i : Int) < 3) = true := by first | decide | (simp; done) | (simp; omega)
          have f2 : (k != (i : Int) + 1) = false := by first | decide | (simp; done) | (simp; omega)
          have d1 : decide ((8 : Int) < k) = true := by first | decide | (simp; done) | (simp; omega)
          have d2 : (k != 127) = true := by first | decide | (simp; done) | (simp; omega)
          go_enter Tryz.func40, Tryz.ntmps40
          go_wp2
          all_goals go_ret
          all_goals exact ⟨rfl, rfl⟩
      · by_cases c3 : k < 8
        · by_cases c4 : 0 < c
          · obtain rfl : E = 9 := by
              rw [hE]
              (repeat' split) <;> omega
            clear hE
            have f1 : decide ((i : Int) < 3) = true := by first | decide | (simp; done) | (simp; omega)
            have f2 : (k != (i : Int) + 1) = false := by first | decide | (simp; done) | (simp; omega)
            have d1 : decide ((8 : Int) < k) = false := by first | decide | (simp; done) | (simp; omega)
            have d2 : decide (k < (8 : Int)) = true := by first | decide | (simp; done) | (simp; omega)
            have d3 : decide ((0 : Int) < (c : Int)) = true := by first | decide | (simp; done) | (simp; omega)
            go_enter Tryz.func40, Tryz.ntmps40
            go_wp2
            all_goals go_ret
            all_goals exact ⟨rfl, rfl⟩
          · obtain rfl : E = 0 := by
              rw [hE]
              (repeat' split) <;> omega
            clear hE
            have f1 : decide ((i : Int) < 3) = true := by first | decide | (simp; done) | (simp; omega)
            have f2 : (k != (i : Int) + 1) = false := by first | decide | (simp; done) | (simp; omega)
            have d1 : decide ((8 : Int) < k) = false := by first | decide | (simp; done) | (simp; omega)
            have d2 : decide (k < (8 : Int)) = true := by first | decide | (simp; done) | (simp; omega)
            have d3 : decide ((0 : Int) < (c : Int)) = false := by first | decide | (simp; done) | (simp; omega)
            go_enter Tryz.func40, Tryz.ntmps40
            go_wp2
            all_goals go_ret
            all_goals exact ⟨rfl, rfl⟩
        · obtain rfl : E = 0 := by
            rw [hE]
            (repeat' split) <;> omega
          clear hE
          have f1 : decide ((i : Int) < 3) = true := by first | decide | (simp; done) | (simp; omega)
          have f2 : (k != (i : Int) + 1) = false := by first | decide | (simp; done) | (simp; omega)
          have d1 : decide ((8 : Int) < k) = false := by first | decide | (simp; done) | (simp; omega)
          have d2 : decide (k < (8 : Int)) = false := by first | decide | (simp; done) | (simp; omega)
          go_enter Tryz.func40, Tryz.ntmps40
          go_wp2
          all_goals go_ret
          all_goals exact ⟨rfl, rfl⟩
    · obtain rfl : E = 10 := by
        rw [hE]
        (repeat' split) <;> omega
      clear hE
      have f1 : decide ((i : Int) < 3) = true := by first | decide | (simp; done) | (simp; omega)
      have f2 : (k != (i : Int) + 1) = true := by first | decide | (simp; done) | (simp; omega)
      go_enter Tryz.func40, Tryz.ntmps40
      go_wp2
      all_goals go_ret
      all_goals exact ⟨rfl, rfl⟩
  · by_cases c1 : 8 < k
    · by_cases c2 : k = 127
      · first
        | (exfalso; omega)
        | (subst c2
           obtain rfl : E = 0 := by
             rw [hE]
             (repeat' split) <;> omega
           clear hE
           have f1 : decide ((i : Int) < 3) = false := by first | decide | (simp; done) | (simp; omega)
           have d1 : decide ((8 : Int) < 127) = true := by first | decide | (simp; done) | (simp; omega)
           go_enter Tryz.func40, Tryz.ntmps40
           go_wp2
           all_goals go_ret
           all_goals exact ⟨rfl, rfl⟩)
      · obtain rfl : E = 5 := by
          rw [hE]
          (repeat' split) <;> omega
        clear hE
        have f1 : decide ((i : Int) < 3) = false := by first | decide | (simp; done) | (simp; omega)
        have d1 : decide ((8 : Int) < k) = true := by first | decide | (simp; done) | (simp; omega)
        have d2 : (k != 127) = true := by first | decide | (simp; done) | (simp; omega)
        go_enter Tryz.func40, Tryz.ntmps40
        go_wp2
        all_goals go_ret
        all_goals exact ⟨rfl, rfl⟩
    · by_cases c3 : k < 8
      · by_cases c4 : 0 < c
        · obtain rfl : E = 9 := by
            rw [hE]
            (repeat' split) <;> omega
          clear hE
          have f1 : decide ((i : Int) < 3) = false := by first | decide | (simp; done) | (simp; omega)
          have d1 : decide ((8 : Int) < k) = false := by first | decide | (simp; done) | (simp; omega)
          have d2 : decide (k < (8 : Int)) = true := by first | decide | (simp; done) | (simp; omega)
          have d3 : decide ((0 : Int) < (c : Int)) = true := by first | decide | (simp; done) | (simp; omega)
          go_enter Tryz.func40, Tryz.ntmps40
          go_wp2
          all_goals go_ret
          all_goals exact ⟨rfl, rfl⟩
        · obtain rfl : E = 0 := by
            rw [hE]
            (repeat' split) <;> omega
          clear hE
          have f1 : decide ((i : Int) < 3) = false := by first | decide | (simp; done) | (simp; omega)
          have d1 : decide ((8 : Int) < k) = false := by first | decide | (simp; done) | (simp; omega)
          have d2 : decide (k < (8 : Int)) = true := by first | decide | (simp; done) | (simp; omega)
          have d3 : decide ((0 : Int) < (c : Int)) = false := by first | decide | (simp; done) | (simp; omega)
          go_enter Tryz.func40, Tryz.ntmps40
          go_wp2
          all_goals go_ret
          all_goals exact ⟨rfl, rfl⟩
      · obtain rfl : E = 0 := by
          rw [hE]
          (repeat' split) <;> omega
        clear hE
        have f1 : decide ((i : Int) < 3) = false := by first | decide | (simp; done) | (simp; omega)
        have d1 : decide ((8 : Int) < k) = false := by first | decide | (simp; done) | (simp; omega)
        have d2 : decide (k < (8 : Int)) = false := by first | decide | (simp; done) | (simp; omega)
        go_enter Tryz.func40, Tryz.ntmps40
        go_wp2
        all_goals go_ret
        all_goals exact ⟨rfl, rfl⟩

end Go.Proofs.YtocgnbbnaamjjaaGreatDoor

namespace Go.Proofs.YtocgnbbnaamjjaaGreatDoor
open Go.RowKit
attribute [local go_sem ↓] Go.wp_at_zero Go.wp_at_succ
set_option linter.unusedSimpArgs false
set_option linter.unusedVariables false
set_option maxRecDepth 100000

theorem take_all {g B D : Nat} {s : ByteArray} (k : Int) (x : Ld) (w : World) (hR : RdT w g s 0 (0, 0, -1)) (hA : LdAc w D B x) (hb : s.size ≤ 100000) (hDB : D ≤ B) (hDg : D ≤ g) (hk : (0 < k ∧ k ≤ 8) ∨ k = 127)
    (h4 : k = 4 → x.de = []) (h5 : k = 5 → x.ho = []) (h6 : k = 6 → x.sy = []) (h7 : k = 7 → x.ca = []) (h8 : x.ma.length ≤ 90000) (h9 : x.og.length ≤ 90000) :
    Calls Tryz.prog 41 #[.pointer (some ⟨B, 0, none⟩), .pointer (some ⟨g, 0, none⟩), .int .i64 k] w (TkR g B D s k x w) := by
  have hk : k = 1 ∨ k = 2 ∨ k = 3 ∨ k = 4 ∨ k = 5 ∨ k = 6 ∨ k = 7 ∨ k = 8 ∨ k = 127 := by omega
  rcases hk with rfl | rfl | rfl | rfl | rfl | rfl | rfl | rfl | rfl
  · exact take_n1 x w hR hA hb hDB hDg
  · exact take_n2 x w hR hA hb hDB hDg
  · exact take_tt x w hR hA hb hDB hDg
  · exact take_de x w hR hA hb hDB hDg (h4 rfl)
  · exact take_ho x w hR hA hb hDB hDg (h5 rfl)
  · exact take_sy x w hR hA hb hDB hDg (h6 rfl)
  · exact take_ca x w hR hA hb hDB hDg (h7 rfl)
  · exact take_ma x w hR hA hb hDB hDg h8
  · exact take_og x w hR hA hb hDB hDg h9

/-- Blocks of other types, but for one, stay. -/
def KeepB1 (B : Nat) (w w' : World) : Prop := ∀ X T C, Blk w X T C → X ≠ B → T ∉ mgog → Blk w' X T C

theorem misK_kind {k : Int} {i c : Nat} (h : misK k i c = 0) : (k ≤ 8 ∨ k = 127) ∧ (k < 8 → c = 0) := by
  unfold misK at h
  (repeat' split at h) <;> omega

set_option maxHeartbeats 3200000 in
theorem fault_mis {B D : Nat} (x : Ld) (t : Tl) (i c : Nat) (w : World) (hA : LdAc w D B x) (hDB : D ≤ B) (hi : i ≤ 100000) (hk : 0 ≤ t.k ∧ t.k ≤ 1000) (hc : c ≤ 100000) (hm : misK t.k i c ≠ 0) :
    Calls Tryz.prog 17 #[.pointer (some ⟨B, 0, none⟩), .agg (tlC t), .int .i64 i, .int .i64 c] w fun e w' => e = .returned (.int .i64 (misK t.k i c)) ∧ Below w.heap.size w w' := by
  have HM := Lib.hid (fun W => misplaced_any t.k i c W hi hk hc)
  obtain ⟨k, s⟩ := t
  simp only at HM hk hm ⊢
  have b1 : Below w.heap.size w (w.alloc (.cells (tlC ⟨k, s⟩) 80)) := (Below.refl _ _).alloc (Nat.le_refl _) _
  have HG1 := Blk.new w 80 (tlC ⟨k, s⟩)
  generalize misK k i c = E at *
  have hE : (E != 0) = true := by simpa using hm
  clear hm hA hDB
  go_enter Tryz.func17, Tryz.ntmps17
  go_upto_region 1 with (fail)
  generalize w.alloc (.cells (tlC ⟨k, s⟩) 80) = w1 at *
  have c0 := HG1.cv 0 (.int .i64 k) rfl
  go_wp2_with fail
  refine (HM.out _).mono ?_
  rintro e w2 ⟨rfl, rfl⟩
  go_wp2
  go_ret
  exact ⟨rfl, b1⟩

set_option maxHeartbeats 3200000 in
theorem fault_take {B D : Nat} (x : Ld) (t : Tl) (i c : Nat) (w : World) (hA : LdAc w D B x) (hDB : D ≤ B) (hb : t.t.size ≤ 100000) (hi : i ≤ 100000) (hk : 0 < t.k ∧ t.k ≤ 1000) (hc : c ≤ 100000) (hm : misK t.k i c = 0)
    (h4 : t.k = 4 → x.de = []) (h5 : t.k = 5 → x.ho = []) (h6 : t.k = 6 → x.sy = []) (h7 : t.k = 7 → x.ca = []) (h8 : x.ma.length ≤ 90000) (h9 : x.og.length ≤ 90000) :
    Calls Tryz.prog 17 #[.pointer (some ⟨B, 0, none⟩), .agg (tlC t), .int .i64 i, .int .i64 c] w fun e w' => e = .returned (.int .i64 (vrd t i c)) ∧ (vrd t i c = 0 → LdAc w' D B (addLd x t)) ∧ KeepB1 B w w' ∧ Below D w w' := by
  have HM := Lib.hid (fun W => misplaced_any t.k i c W hi ⟨by omega, hk.2⟩ hc)
  rw [hm] at HM
  have hkk := misK_kind hm
  obtain ⟨V, hV⟩ : ∃ V, V = vrd t i c := ⟨_, rfl⟩
  rw [← hV]
  unfold vrd at hV
  rw [if_neg (fun q => q hm)] at hV
  obtain ⟨k, s⟩ := t
  simp only [txT] at HM hkk hV hk hb h4 h5 h6 h7 ⊢
  have HT := Lib.hid (fun (g : Nat) (W : World) (hR : RdT W g s 0 (0, 0, -1)) (hA : LdAc W D B x) (hDg : D ≤ g) => take_all k x W hR hA hb hDB hDg (by omega) h4 h5 h6 h7 h8 h9)
  have HV := Lib.hid hV
  have HA := Lib.hid hA
  have hDw : D ≤ w.heap.size := by have := hA.lt; omega
  have hBw : B < w.heap.size := hA.lt
  have b1 : Below w.heap.size w (w.alloc (.cells (tlC ⟨k, s⟩) 80)) := (Below.refl _ _).alloc (Nat.le_refl _) _
  have HG1 := Blk.new w 80 (tlC ⟨k, s⟩)
  clear hV h4 h5 h6 h7 h8 h9 hkk hm hk
  go_enter Tryz.func17, Tryz.ntmps17
  go_upto_region 1 with (fail)
  generalize w.alloc (.cells (tlC ⟨k, s⟩) 80) = w1 at *
  have c0 := HG1.cv 0 (.int .i64 k) rfl
  have c1 := HG1.cv 1 (.string s) rfl
  go_wp2_with fail
  refine (HM.out _).mono ?_
  rintro e w2 ⟨rfl, rfl⟩
  go_wp2_with fail
  refine (new_t s 0 _).mono ?_
  rintro e w3 ⟨rfl, HR3, b3⟩
  have HG3 := HG1.kept b3
  have B3 : Below w.heap.size w w3 := b1.trans (b3.mono b1.size)
  have HA3 := HA.out.kept B3
  have d0 := HG3.cv 0 (.int .i64 k) rfl
  have hg3 : D ≤ w1.heap.size := by have := b1.size; omega
  have hgw : w.heap.size ≤ w1.heap.size := b1.size
  clear HG1 b3 c0 c1 HM b1
  generalize w1.heap.size = g at *
  go_wp2_with fail
  refine (HT.out _ _ HR3 HA3 hg3).mono ?_
  rintro e w4 ⟨rt, st', rfl, HR4, hrd, hfm, K4, E4⟩
  have KB4 : KeepB1 B w w4 := fun X T C hX h1 h2 => K4 X T C (hX.kept B3) h1 (by have := hX.lt; omega) h2
  have EB4 : Below D w w4 := (B3.mono hDw).trans E4
  replace hrd := Lib.hid hrd
  replace hfm := Lib.hid hfm
  have hle : st'.1 ≤ s.size := by have := hrd.out.1; simpa using this
  have hls : Hid (s.data.toList.length = s.size) := by show _ = _; simp
  clear HG3 HR3 HA3 K4 E4 B3 HA HT d0
  by_cases he : st'.2.1 = 0
  · by_cases hl : st'.1 < s.size
    · have hff : Hid (formK k s.data.toList = false) := by
        show _ = _
        cases hq : formK k s.data.toList with
        | false => rfl
        | true =>
          have := hrd.out.2.1 hq
          rw [this] at hl
          simp only at hl
          have := hls.out
          omega
      have hl2 : decide ((0 : Int) < ((s.size - st'.1 : Nat) : Int)) = true := by simp; omega
      have hl3 : decide (0 < s.size - st'.1) = true := by simp; omega
      have HL := Lib.hid (leftT st' w4 HR4 hle)
      generalize s.size - st'.1 = n at *
      clear hl hle
      go_wp2_with fail
      refine (err_ok st' _ HR4 he).mono ?_
      rintro e w5 ⟨rfl, rfl⟩
      clear he
      go_wp2_with fail
      refine HL.out.mono ?_
      rintro e w6 ⟨rfl, rfl⟩
      go_wp2
      go_ret
      have hv : V = 3 := by rw [HV.out, if_pos hff.out]
      exact ⟨by rw [hv]; rfl, fun q => by rw [hv] at q; exact absurd q (by decide), KB4, EB4⟩
    · have hff : Hid (formK k s.data.toList = true) := by
        show _ = _
        cases hq : formK k s.data.toList with
        | true => rfl
        | false =>
          have := hrd.out.2.2 hq
          have := hls.out
          omega
      have hl2 : decide ((0 : Int) < ((s.size - st'.1 : Nat) : Int)) = false := by simp; omega
      have hl3 : decide (0 < s.size - st'.1) = false := by simp; omega
      have HL := Lib.hid (leftT st' w4 HR4 hle)
      generalize s.size - st'.1 = n at *
      obtain ⟨hrt, hac⟩ := hfm.out hff.out
      replace hrt := Lib.hid hrt
      have HV2 : Hid (V = if goodK k s.data.toList = false then 2 else if 20 ≤ c then 4 else 0) := by
        show _ = _
        rw [HV.out, if_neg (by rw [hff.out]; decide)]
      rw [← hrt.out] at HV2
      clear hl hle hrt HV hfm
      replace hac := Lib.hid hac
      go_wp2_with fail
      refine (err_ok st' _ HR4 he).mono ?_
      rintro e w5 ⟨rfl, rfl⟩
      clear he
      cases rt with
      | false =>
        go_wp2_with fail
        refine HL.out.mono ?_
        rintro e w6 ⟨rfl, rfl⟩
        go_wp2
        go_ret
        have hv : V = 2 := by have q := HV2.out; simpa using q
        exact ⟨by rw [hv]; rfl, fun q => by rw [hv] at q; exact absurd q (by decide), KB4, EB4⟩
      | true =>
        by_cases h20 : 20 ≤ c
        · have h21 : decide ((20 : Int) ≤ (c : Int)) = true := by simp; omega
          have h22 : decide (20 ≤ c) = true := by simp; omega
          go_wp2_with fail
          refine HL.out.mono ?_
          rintro e w6 ⟨rfl, rfl⟩
          go_wp2
          go_ret
          have hv : V = 4 := by have q := HV2.out; simpa [h20] using q
          exact ⟨by rw [hv]; rfl, fun q => by rw [hv] at q; exact absurd q (by decide), KB4, EB4⟩
        · have h21 : decide ((20 : Int) ≤ (c : Int)) = false := by simp; omega
          have h22 : decide (20 ≤ c) = false := by simp; omega
          go_wp2_with fail
          refine HL.out.mono ?_
          rintro e w6 ⟨rfl, rfl⟩
          go_wp2
          go_ret
          have hv : V = 0 := by have q := HV2.out; simpa [h20] using q
          exact ⟨by rw [hv]; rfl, fun _ => hac.out, KB4, EB4⟩
  · have hff : Hid (formK k s.data.toList = false) := by
      show _ = _
      cases hq : formK k s.data.toList with
      | false => rfl
      | true =>
        have := hrd.out.2.1 hq
        rw [this] at he
        exact absurd rfl he
    have HE := Lib.hid (err_t st' w4 HR4 he)
    clear he hle
    go_wp2_with fail
    refine HE.out.mono ?_
    rintro e w5 ⟨rfl, hF5, b5⟩
    have EB5 := EB4.trans (b5.mono (Nat.le_trans hDw EB4.size))
    have KB5 : KeepB1 B w w5 := fun X T C hX h1 h2 => (KB4 X T C hX h1 h2).kept b5
    go_wp2
    go_ret
    have hv : V = 3 := by rw [HV.out, if_pos hff.out]
    exact ⟨by rw [hv]; rfl, fun q => by rw [hv] at q; exact absurd q (by decide), KB5, EB5⟩

theorem fault_any {B D : Nat} (x : Ld) (t : Tl) (i c : Nat) (w : World) (hA : LdAc w D B x) (hDB : D ≤ B) (hb : t.t.size ≤ 100000) (hi : i ≤ 100000) (hk : 0 < t.k ∧ t.k ≤ 1000) (hc : c ≤ 100000)
    (h4 : t.k = 4 → c = 0 → x.de = []) (h5 : t.k = 5 → c = 0 → x.ho = []) (h6 : t.k = 6 → c = 0 → x.sy = []) (h7 : t.k = 7 → c = 0 → x.ca = []) (h8 : x.ma.length ≤ 90000) (h9 : x.og.length ≤ 90000) :
    Calls Tryz.prog 17 #[.pointer (some ⟨B, 0, none⟩), .agg (tlC t), .int .i64 i, .int .i64 c] w fun e w' => e = .returned (.int .i64 (vrd t i c)) ∧ (vrd t i c = 0 → LdAc w' D B (addLd x t)) ∧ KeepB1 B w w' ∧ Below D w w' := by
  by_cases hm : misK t.k i c = 0
  · have hz := (misK_kind hm).2
    exact fault_take x t i c w hA hDB hb hi hk hc hm (fun q => h4 q (hz (by omega))) (fun q => h5 q (hz (by omega))) (fun q => h6 q (hz (by omega))) (fun q => h7 q (hz (by omega))) h8 h9
  · refine (fault_mis x t i c w hA hDB hi ⟨by omega, hk.2⟩ hc hm).mono ?_
    rintro e w' ⟨rfl, b⟩
    have hv : vrd t i c = misK t.k i c := by unfold vrd; rw [if_pos hm]
    have := hA.lt
    exact ⟨by rw [hv], fun q => absurd (hv.symm.trans q) hm, fun X T C hX _ _ => hX.kept b, b.mono (by omega)⟩

end Go.Proofs.YtocgnbbnaamjjaaGreatDoor

namespace Go.Proofs.YtocgnbbnaamjjaaGreatDoor
open Go.RowKit
set_option linter.unusedVariables false
set_option linter.unusedSimpArgs false
set_option maxRecDepth 100000

def cntC (f : Nat → Nat) : Array Value := (Array.range 128).map fun k => .int .i64 (f k : Nat)

theorem cntC_size (f : Nat → Nat) : (cntC f).size = 128 := by simp [cntC]

theorem cntC_get (f : Nat → Nat) (k : Nat) (h : k < 128) : (cntC f)[k]? = some (.int .i64 (f k : Nat)) := by
  simp [cntC, h]

theorem cntC_set (f g : Nat → Nat) (k : Nat) (h : k < 128) (hg : ∀ j, g j = if j = k then f j + 1 else f j) : (cntC f).setIfInBounds k (.int .i64 ((f k + 1 : Nat) : Int)) = cntC g := by
  apply Array.ext_getElem?
  intro j
  rw [Array.getElem?_setIfInBounds]
  by_cases hj : j < 128
  · rw [cntC_get g j hj, cntC_get f j hj, cntC_size, hg]
    by_cases e : k = j
    · subst e
      simp [h]
    · rw [if_neg e, if_neg (fun q => e q.symm)]
  · rw [Array.getElem?_eq_none (by rw [cntC_size]; omega), Array.getElem?_eq_none (by rw [cntC_size]; omega), cntC_size]
    by_cases e : k = j
    · omega
    · rw [if_neg e]

theorem Tryz.cntZero : (Tryz.prog.info? 94).map (·.zero) = some (some (.agg (cntC fun _ => 0))) := by kernel_rfl

theorem add_len (x : Ld) (t : Tl) : (addLd x t).de.length = x.de.length + cntK 4 [t] ∧ (addLd x t).ho.length = x.ho.length + cntK 5 [t] ∧ (addLd x t).sy.length = x.sy.length + cntK 6 [t] ∧ (addLd x t).ca.length = x.ca.length + cntK 7 [t] ∧ (addLd x t).ma.length ≤ x.ma.length + 1 ∧ (addLd x t).og.length ≤ x.og.length + 1 := by
  obtain ⟨k, s⟩ := t
  simp only [cntK_cons, cntK_nil, Nat.add_zero]
  unfold addLd
  simp only
  (repeat' split) <;> first
    | (exfalso; omega)
    | simp

theorem fold_len : ∀ (l : List Tl) (x : Ld), (l.foldl addLd x).de.length = x.de.length + cntK 4 l ∧ (l.foldl addLd x).ho.length = x.ho.length + cntK 5 l ∧ (l.foldl addLd x).sy.length = x.sy.length + cntK 6 l ∧ (l.foldl addLd x).ca.length = x.ca.length + cntK 7 l ∧ (l.foldl addLd x).ma.length ≤ x.ma.length + l.length ∧ (l.foldl addLd x).og.length ≤ x.og.length + l.length
  | [], x => by simp [cntK]
  | t :: l, x => by
    obtain ⟨a1, a2, a3, a4, a5, a6⟩ := add_len x t
    obtain ⟨b1, b2, b3, b4, b5, b6⟩ := fold_len l (addLd x t)
    have e : ∀ k, cntK k (t :: l) = cntK k [t] + cntK k l := fun k => by rw [show t :: l = [t] ++ l from rfl, cntK_app]
    rw [List.foldl_cons, e, e, e, e, List.length_cons]
    exact ⟨by omega, by omega, by omega, by omega, by omega, by omega⟩

theorem fold_empty (l : List Tl) : (cntK 4 l = 0 → (ldVal l).de = []) ∧ (cntK 5 l = 0 → (ldVal l).ho = []) ∧ (cntK 6 l = 0 → (ldVal l).sy = []) ∧ (cntK 7 l = 0 → (ldVal l).ca = []) ∧ (ldVal l).ma.length ≤ l.length ∧ (ldVal l).og.length ≤ l.length := by
  obtain ⟨b1, b2, b3, b4, b5, b6⟩ := fold_len l zLd
  have z : zLd.de.length = 0 ∧ zLd.ho.length = 0 ∧ zLd.sy.length = 0 ∧ zLd.ca.length = 0 ∧ zLd.ma.length = 0 ∧ zLd.og.length = 0 := ⟨rfl, rfl, rfl, rfl, rfl, rfl⟩
  unfold ldVal
  exact ⟨fun q => List.eq_nil_of_length_eq_zero (by omega), fun q => List.eq_nil_of_length_eq_zero (by omega), fun q => List.eq_nil_of_length_eq_zero (by omega), fun q => List.eq_nil_of_length_eq_zero (by omega), by omega, by omega⟩

theorem ldVal_snoc (l : List Tl) (k : Nat) (hk : k < l.length) : ldVal (l.take (k + 1)) = addLd (ldVal (l.take k)) l[k] := by
  unfold ldVal
  rw [List.take_add_one, List.getElem?_eq_getElem hk, List.foldl_append]
  rfl

theorem cntK_snoc (j : Int) (l : List Tl) (k : Nat) (hk : k < l.length) : cntK j (l.take (k + 1)) = cntK j (l.take k) + if l[k].k = j then 1 else 0 := by
  rw [List.take_add_one, List.getElem?_eq_getElem hk, cntK_app, show (some l[k]).toList = [l[k]] from rfl, cntK_cons, cntK_nil]
  omega

theorem cntK_le (j : Int) (l : List Tl) : cntK j l ≤ l.length := List.countP_le_length

/-- What comes behind the first k of them. -/
def ldAtK (e : Nat) (l : List Tl) (a : List Nat) (k : Nat) : LdR := ldGo e (l.take k) (ldVal (l.take k)) (l.drop k) (a.drop k)

theorem ldAtK_zero (e : Nat) (l : List Tl) (a : List Nat) : ldAtK e l a 0 = ldGo e [] zLd l a := rfl

theorem ldAtK_step (e : Nat) (l : List Tl) (a : List Nat) (k : Nat) (hk : k < l.length) (h : vrd l[k] k (cntK l[k].k (l.take k)) = 0) : ldAtK e l a k = ldAtK e l a (k + 1) := by
  unfold ldAtK
  rw [List.drop_eq_getElem_cons hk, ldGo, List.length_take, Nat.min_eq_left (by omega), if_pos h, ldVal_snoc l k hk, List.take_add_one, List.getElem?_eq_getElem hk, List.tail_drop]
  rfl

theorem ldAtK_bad (e : Nat) (l : List Tl) (a : List Nat) (k : Nat) (hk : k < l.length) (ha : k < a.length) (h : vrd l[k] k (cntK l[k].k (l.take k)) ≠ 0) : ldAtK e l a k = .bad (vrd l[k] k (cntK l[k].k (l.take k))) a[k] := by
  unfold ldAtK
  rw [List.drop_eq_getElem_cons hk, ldGo, List.length_take, Nat.min_eq_left (by omega), if_neg h, List.drop_eq_getElem_cons ha]
  rfl

theorem ldAtK_end (e : Nat) (l : List Tl) (a : List Nat) : ldAtK e l a l.length = if l.length < 3 then .bad 7 e else .ok (ldVal l) := by
  unfold ldAtK
  rw [List.take_length, List.drop_length, ldGo]

end Go.Proofs.YtocgnbbnaamjjaaGreatDoor

namespace Go.Proofs.YtocgnbbnaamjjaaGreatDoor
open Go.RowKit
attribute [local go_sem ↓] Go.wp_at_zero Go.wp_at_succ
set_option linter.unusedSimpArgs false
set_option linter.unusedVariables false
set_option maxRecDepth 100000

theorem grown_belT {B g : Nat} {a w w' : World} (h : Below B a w) (hg : w.grownBy w' (some g)) (hB : B ≤ w.heap.size) (hr : B ≤ g) : Below B a w' :=
  h.grown hg hB fun k e => by cases e; exact hr

theorem results_tmp4 {fn : Func} {t u v x : Tmp} (h : fn.results = #[.tmp t, .tmp u, .tmp v, .tmp x]) (tmps : Array Value) (P : Program) (w : World) :
    (results fn tmps).run P w = .ok (.tuple #[tmps.getD t undef, tmps.getD u undef, tmps.getD v undef, tmps.getD x undef]) w := by
  simp [results, h]

/-- A row of one's own grows: a reader stays where it is. -/
theorem rdT_tl {w w' : World} {v : Value} {l : List Tl} {base gr off : Nat} {s : ByteArray} {st : RSt} (hO : OwnTl w base v l) (hg : w.grownBy w' v.ownBlock) (h : RdT w gr s off st) : RdT w' gr s off st := by
  rcases hO.blk with e | ⟨g, C, e, _, hB⟩
  · rw [e] at hg
    exact h.below ⟨hg.os, hg.tape, hg.output, hg.size, fun k hk => hg.block k hk (by simp)⟩
  · rw [e] at hg
    exact h.other hB (by decide) (by decide) hg

theorem rdT_ni {w w' : World} {v : Value} {l : List Nat} {base gr off : Nat} {s : ByteArray} {st : RSt} (hO : OwnNat w base v l) (hg : w.grownBy w' v.ownBlock) (h : RdT w gr s off st) : RdT w' gr s off st := by
  rcases hO.blk with e | ⟨g, C, e, _, hB⟩
  · rw [e] at hg
    exact h.below ⟨hg.os, hg.tape, hg.output, hg.size, fun k hk => hg.block k hk (by simp)⟩
  · rw [e] at hg
    exact h.other hB (by decide) (by decide) hg

theorem own_tl_ni {w w' : World} {v u : Value} {l : List Tl} {m : List Nat} {base B : Nat} (hO : OwnTl w base v l) (hg : w.grownBy w' v.ownBlock) (h : OwnNat w B u m) : OwnNat w' B u m := by
  rcases hO.blk with e | ⟨g, C, e, _, hB⟩
  · rw [e] at hg
    exact h.grown hg (fun q hq => by cases hq)
  · rw [e] at hg
    exact h.other hB (by decide) hg

theorem own_ni_tl {w w' : World} {v u : Value} {l : List Tl} {m : List Nat} {base B : Nat} (hO : OwnNat w B u m) (hg : w.grownBy w' u.ownBlock) (h : OwnTl w base v l) : OwnTl w' base v l := by
  rcases hO.blk with e | ⟨g, C, e, _, hB⟩
  · rw [e] at hg
    exact h.grown hg (fun q hq => by cases hq)
  · rw [e] at hg
    exact h.other hB (by decide) hg

set_option maxHeartbeats 6400000 in
theorem tlRead_any (s : ByteArray) (w : World) (hs : s.size ≤ 100000) (R : TlR) (hR : rdAll s.data.toList = R) :
    Calls Tryz.prog 16 #[.string s] w fun e w' => ∃ v1 v2 er, e = .returned (.tuple #[v1, v2, .int .i64 (R.fin : Nat), er]) ∧ OwnTl w' w.heap.size v1 R.recs ∧ OwnNat w' w.heap.size v2 R.offs ∧ ErrAs w' er R.er R.pl ∧ Below w.heap.size w w' := by
  have hb : s.size ≤ 281474976710656 := by omega
  have hls : s.data.toList.length = s.size := by simp
  have hI0 := inv_start s.data.toList
  rw [hR] at hI0
  clear hR
  go_enter Tryz.func16, Tryz.ntmps16
  go_wp2_with fail
  refine (new_t s 0 _).mono ?_
  rintro e w1 ⟨rfl, HR1, b1⟩
  have hg1 := HR1.lt
  generalize hgg : w.heap.size = g at *
  go_wp2_with fail
  go_loopw [6, 7] (fun v1 v2 wr => ∃ st l a, RdInv s.data.toList R st l a ∧ RdT wr g s 0 st ∧ OwnTl wr w1.heap.size v1 l ∧ OwnNat wr w1.heap.size v2 a ∧ Below g w wr ∧ w1.heap.size ≤ wr.heap.size ∧ a.length = l.length) (fun _ _ wr => rdLeft s.size wr g)
  case atStart => exact ⟨_, _, _, hI0, HR1, Or.inl ⟨rfl, rfl⟩, Or.inl ⟨rfl, rfl⟩, b1, Nat.le_refl _, rfl⟩
  case round =>
    rename_i wr0
    obtain ⟨st, l, a, hI, HR, HO, HN, Bk, hsz, hal⟩ := hrel
    have hp : st.1 ≤ s.size := by rw [← hls]; exact hI.1
    have hp2 : (hdS s.data.toList st).1 ≤ s.size := by rw [← hls]; exact hdS_le _ _ hI.1
    have hrd := rd_round _ _ _ _ _ hI
    have hgb : g ≤ wr.heap.size := by omega
    have HH := Lib.hid (fun (W : World) (h : RdT W g s 0 st) => readHead_t st W h hp hb)
    have HZ := Lib.hid (fun (W : World) (h : RdT W g s 0 (hdS s.data.toList st)) => zeros_t _ W h hp2 (by omega))
    have e0 : ((0 : Nat) : Int) + (st.1 : Int) = ((st.1 : Nat) : Int) := by omega
    have HA : Hid (∀ W, RdT W g s 0 st → Calls Tryz.prog 35 #[.pointer (some ⟨g, 0, none⟩)] W fun e w' => e = .returned (.int .i64 ((st.1 : Nat) : Int)) ∧ W = w') := fun W h => by
      rw [← e0]
      exact atT st W h
    rcases hrd with ⟨k0, z0, hne, r1, r2, r3, r4, r5⟩ | ⟨k0, z1, rfl⟩ | ⟨k1, hl2, hs0, hI2, hlt⟩
    · rw [k0] at HH
      rw [z0] at HZ
      have hr1 := Lib.hid r1
      have hr2 := Lib.hid r2
      have hr3 := Lib.hid r3
      have hr4 := Lib.hid r4
      have hr5 := Lib.hid r5
      have HER := Lib.hid (fun (W : World) (h : RdT W g s 0 (zrR s.data.toList 0 (hdS s.data.toList st)).2) => err_t _ W h hne)
      clear hI HO HN r1 r2 r3 r4 r5 k0 z0 hp hp2 hI0 HR1 b1 hg1 hal
      generalize (zrR s.data.toList 0 (hdS s.data.toList st)).2 = st3 at *
      generalize hdS s.data.toList st = st2 at *
      generalize nmV s.data.toList 0 st 2 % 512 = Z at *
      go_wp2_with fail
      refine (HA.out _ HR).mono ?_
      rintro e w2 ⟨rfl, rfl⟩
      go_wp2_with fail
      refine (HH.out _ HR).mono ?_
      rintro e w3 ⟨rfl, HR3, g3⟩
      have B3 := grown_belT Bk g3 hgb (Nat.le_refl _)
      go_wp2_with fail
      refine (HZ.out _ HR3).mono ?_
      rintro e w4 ⟨rfl, HR4, g4⟩
      have B4 := grown_belT B3 g4 (Nat.le_trans hgb g3.size) (Nat.le_refl _)
      go_wp2_with fail
      refine (HER.out _ HR4).mono ?_
      rintro e w5 ⟨rfl, hF5, b5⟩
      go_wp2
      (try simp only [Exit.inBlock, Exit.then]); refine bodyPost_ret (results_tmp4 rfl _ _ _) rfl ?_
      rw [hr1.out, hr2.out, hr3.out, hr4.out, hr5.out]
      subst hgg
      exact ⟨_, _, _, rfl, Or.inl ⟨rfl, rfl⟩, Or.inl ⟨rfl, rfl⟩, Or.inr ⟨hne, _, rfl, hF5⟩, B4.trans (b5.mono (by have := B4.size; omega))⟩
    · rw [k0] at HH
      rw [z1] at HZ
      clear k0 z1 hp hp2 hI0 HR1 b1 hal hI
      generalize (zrR s.data.toList 0 (hdS s.data.toList st)).2 = st3 at *
      generalize hdS s.data.toList st = st2 at *
      generalize nmV s.data.toList 0 st 2 % 512 = Z at *
      go_wp2_with fail
      refine (HA.out _ HR).mono ?_
      rintro e w2 ⟨rfl, rfl⟩
      go_wp2_with fail
      refine (HH.out _ HR).mono ?_
      rintro e w3 ⟨rfl, HR3, g3⟩
      have B3 := grown_belT Bk g3 hgb (Nat.le_refl _)
      have HO3 := HO.grown g3 (fun q hq => by cases hq; omega)
      have HN3 := HN.grown g3 (fun q hq => by cases hq; omega)
      go_wp2_with fail
      refine (HZ.out _ HR3).mono ?_
      rintro e w4 ⟨rfl, HR4, g4⟩
      have B4 := grown_belT B3 g4 (Nat.le_trans hgb g3.size) (Nat.le_refl _)
      have HO4 := HO3.grown g4 (fun q hq => by cases hq; omega)
      have HN4 := HN3.grown g4 (fun q hq => by cases hq; omega)
      clear HR HR3 HR4 g3 g4 B3 HO HN HO3 HN3 Bk
      go_wp2
      (try simp only [Exit.inBlock, Exit.then]); refine bodyPost_ret (results_tmp4 rfl _ _ _) rfl ?_
      subst hgg
      exact ⟨_, _, _, rfl, HO4.mono (Nat.le_of_lt hg1), HN4.mono (Nat.le_of_lt hg1), Or.inl ⟨rfl, rfl, rfl⟩, B4⟩
    · have hK : ((nmV s.data.toList 0 st 2 / 512 : Nat) : Int) ≠ 0 := by omega
      have HB := Lib.hid (fun (W : World) (h : RdT W g s 0 (hdS s.data.toList st)) => bytes_t _ (nmV s.data.toList 0 st 2 % 512 : Nat) W h hp2 (by omega))
      have hnx : Hid (nxT s.data.toList st = ⟨(nmV s.data.toList 0 st 2 / 512 : Nat), ⟨(tkN s.data.toList 0 (hdS s.data.toList st) (nmV s.data.toList 0 st 2 % 512 : Nat) false).1.toArray⟩⟩) := rfl
      have hnS : Hid (nxS s.data.toList st = (tkN s.data.toList 0 (hdS s.data.toList st) (nmV s.data.toList 0 st 2 % 512 : Nat) false).2) := rfl
      rw [hnx.out] at hI2
      rw [hnS.out] at hI2 hlt
      have hdK : (((nmV s.data.toList 0 st 2 / 512 : Nat) : Int) == 0) = false := by simpa using hK
      have hms : rdLeft s.size wr g = s.size + 1 - st.1 := by
        obtain ⟨p, e, x⟩ := st
        obtain rfl : e = 0 := hs0
        exact rdLeft_ok HR
      have HI2 := Lib.hid hI2
      have HLT := Lib.hid hlt
      clear hI k1 hp2 hI0 HR1 b1 hK hnx hnS HZ hI2 hlt
      generalize (tkN s.data.toList 0 (hdS s.data.toList st) (nmV s.data.toList 0 st 2 % 512 : Nat) false).2 = st3 at *
      generalize (tkN s.data.toList 0 (hdS s.data.toList st) (nmV s.data.toList 0 st 2 % 512 : Nat) false).1 = tx at *
      generalize hdS s.data.toList st = st2 at *
      generalize nmV s.data.toList 0 st 2 % 512 = Z at *
      generalize nmV s.data.toList 0 st 2 / 512 = K at *
      go_wp2_with fail
      refine (HA.out _ HR).mono ?_
      rintro e w2 ⟨rfl, rfl⟩
      go_wp2_with fail
      refine (HH.out _ HR).mono ?_
      rintro e w3 ⟨rfl, HR3, g3⟩
      have B3 := grown_belT Bk g3 hgb (Nat.le_refl _)
      have HO3 := HO.grown g3 (fun q hq => by cases hq; omega)
      have HN3 := HN.grown g3 (fun q hq => by cases hq; omega)
      have hs3 := g3.size
      clear HO HN Bk g3 HR
      go_wp2_with fail
      refine (HB.out _ HR3).mono ?_
      rintro e w4 ⟨rfl, HR4, g4⟩
      have B4 := grown_belT B3 g4 (Nat.le_trans hgb hs3) (Nat.le_refl _)
      have HO4 := HO3.grown g4 (fun q hq => by cases hq; omega)
      have HN4 := HN3.grown g4 (fun q hq => by cases hq; omega)
      have hs4 := g4.size
      clear HO3 HN3 B3 g4 HR3 HA HH HB
      go_wp2_with (first
        | (refine sliceL_tl ⟨(K : Int), ⟨tx.toArray⟩⟩ rfl rfl rfl ?_; intro w5 HG5 b5 s5; have HO5 := HO4.kept b5; have HN5 := HN4.kept b5; have HR5 := HR4.below b5; have B5 := B4.trans (b5.mono (by have := B4.size; omega)))
        | (refine appendL_tl ⟨(K : Int), ⟨tx.toArray⟩⟩ rfl rfl rfl rfl HO5 HG5 (by omega) (by omega) ?_; intro v6 w6 HO6 b6 g6; have HN6 := own_tl_ni HO5 g6 HN5; have HR6 := rdT_tl HO5 g6 HR5; have B6 := B5.trans (b6.mono (by omega)); have hs6 := b6.size)
        | (refine sliceL_ni st.1 rfl rfl rfl ?_; intro w7 HG7 b7 s7; have HO7 := HO6.kept b7; have HN7 := HN6.kept b7; have HR7 := HR6.below b7; have B7 := B6.trans (b7.mono (by have := B6.size; omega)))
        | (refine appendL_ni st.1 rfl rfl rfl rfl HN7 HG7 (by omega) (by omega) ?_; intro v8 w8 HN8 b8 g8; have HO8 := own_ni_tl HN7 g8 HO7; have HR8 := rdT_ni HN7 g8 HR7; have B8 := B7.trans (b8.mono (by omega)); have hs8 := b8.size))
      go_roundw
      case rel => exact ⟨st3, _, _, HI2.out, HR8, HO8, HN8, B8, by omega, by simp [hal]⟩
      case measure =>
        show rdLeft s.size w8 g < rdLeft s.size wr g
        rw [hms]
        rcases HLT.out with q | q
        · obtain ⟨p3, e3, x3⟩ := st3
          rw [rdLeft_bad HR8 q]
          omega
        · obtain ⟨p3, e3, x3⟩ := st3
          by_cases h3 : e3 = 0
          · subst h3
            rw [rdLeft_ok HR8]
            have q : st.1 < p3 := q
            omega
          · rw [rdLeft_bad HR8 h3]
            omega

end Go.Proofs.YtocgnbbnaamjjaaGreatDoor

