/- 9.2, 9.3: what is written is read; what is read is right: plain. -/
import Derived.Test.YtdjljnpbnhampaaDoorBpAt
import Derived.Test.YtdjljnpbnhampaaDoorBpFits
import Derived.Test.YtdjljnpbnhampaaDoorBpOk
namespace Go.Proofs.YtdjljnpbnhampaaDoor
set_option linter.unusedVariables false
set_option linter.unusedSimpArgs false

theorem seg {l A X C : List UInt8} {n k : Nat} (h : l = A ++ (X ++ C)) (hA : A.length = n) (hX : X.length = k) : (l.drop n).take k = X := by
  subst hA hX
  rw [h, List.drop_left, List.take_left]

theorem byX_of (l : List UInt8) (x : Nat → Nat) (hx : ∀ i, x i < 256) (h : l = nb 6 x) (i : Nat) (hi : i < 6) : byX l i = x i := by
  subst h
  have : i = 0 ∨ i = 1 ∨ i = 2 ∨ i = 3 ∨ i = 4 ∨ i = 5 := by omega
  rcases this with rfl | rfl | rfl | rfl | rfl | rfl <;> (unfold byX; show (UInt8.ofNat (x _)).toNat = _; rw [UInt8.toNat_ofNat']; exact Nat.mod_eq_of_lt (hx _))

theorem nat_i (v : Int) (n : Nat) (h : fitI n v = true) : ((beN (putL v.toNat n) : Nat) : Int) = v := by
  obtain ⟨h0, h1⟩ := fitI_all h
  have e : ((256 ^ n : Nat) : Int) = 256 ^ n := by simp
  rw [beN_putL_fits _ _ (by omega)]
  omega

/-- The cells of a BPDU hang on its numbers alone. -/
theorem bpC_congr (a b : Bp) (h0 : a.k = b.k) (h1 : a.f = b.f) (h2 : brC a.root = brC b.root) (h3 : a.cost = b.cost) (h4 : brC a.snd = brC b.snd) (h5 : a.pp = b.pp) (h6 : a.pn = b.pn) (h7 : a.age = b.age) (h8 : a.mx = b.mx) (h9 : a.hel = b.hel) (h10 : a.wai = b.wai) : bpC a = bpC b := by
  have q2 : ∀ i, i < 8 → (brC a.root)[i]? = (brC b.root)[i]? := fun i _ => by rw [h2]
  have q4 : ∀ i, i < 8 → (brC a.snd)[i]? = (brC b.snd)[i]? := fun i _ => by rw [h4]
  obtain ⟨k, f, ⟨rp, re, ra⟩, c, ⟨sp, se, sa⟩, pp, pn, t1, t2, t3, t4⟩ := a
  obtain ⟨k', f', ⟨rp', re', ra'⟩, c', ⟨sp', se', sa'⟩, pp', pn', t1', t2', t3', t4'⟩ := b
  simp only at h0 h1 h3 h5 h6 h7 h8 h9 h10
  subst h0 h1 h3 h5 h6 h7 h8 h9 h10
  simp only [brC, Array.mk.injEq, List.cons.injEq, and_true] at h2 h4
  obtain ⟨a0, a1, a2, a3, a4, a5, a6, a7⟩ := h2
  obtain ⟨b0, b1, b2, b3, b4, b5, b6, b7⟩ := h4
  simp only [bpC]
  rw [a0, a1, a2, a3, a4, a5, a6, a7, b0, b1, b2, b3, b4, b5, b6, b7]

theorem br_back (b : Br) (hb : byB b) (hok : okB b = true) (X : Br) (n : Nat) (l : List UInt8) (hX : X = ⟨(n : Int) / 4096 * 4096, (n : Int) % 4096, byX l⟩) (hn : (n : Int) = b.p + b.e) (hl : l = nb 6 b.a) : brC X = brC b := by
  obtain ⟨p0, p1, pm, e0, e1⟩ := okB_all hok
  have q := byX_of l b.a hb hl
  have hp : (n : Int) / 4096 * 4096 = b.p := by omega
  have he : (n : Int) % 4096 = b.e := by omega
  subst hX
  unfold brC
  rw [hp, he]
  simp only [q 0 (by decide), q 1 (by decide), q 2 (by decide), q 3 (by decide), q 4 (by decide), q 5 (by decide)]

/-- The body, field by field, where it stands. -/
structure InL (b : Bp) (l : List UInt8) (p : Nat) : Prop where
  f0 : (l.drop p).take 1 = putL (byF b.f) 1
  f1 : (l.drop (p + 1)).take 2 = putL (b.root.p + b.root.e).toNat 2
  f2 : (l.drop (p + 3)).take 6 = nb 6 b.root.a
  f3 : (l.drop (p + 9)).take 4 = putL b.cost.toNat 4
  f4 : (l.drop (p + 13)).take 2 = putL (b.snd.p + b.snd.e).toNat 2
  f5 : (l.drop (p + 15)).take 6 = nb 6 b.snd.a
  f6 : (l.drop (p + 21)).take 2 = putL (256 * b.pp + b.pn).toNat 2
  f7 : (l.drop (p + 23)).take 2 = putL b.age.toNat 2
  f8 : (l.drop (p + 25)).take 2 = putL b.mx.toNat 2
  f9 : (l.drop (p + 27)).take 2 = putL b.hel.toNat 2
  f10 : (l.drop (p + 29)).take 2 = putL b.wai.toNat 2

theorem packL_two (b : Br) : packL b = putL (b.p + b.e).toNat 2 ++ nb 6 b.a := rfl

theorem nb6_len (x : Nat → Nat) : (nb 6 x).length = 6 := nb_len 6 x

theorem inL_of {b : Bp} {l H C : List UInt8} (h : l = H ++ (bodyL b ++ C)) (hH : H.length = 4) : InL b l 4 := by
  unfold bodyL tmL pprL at h
  rw [packL_two, packL_two] at h
  constructor
  · exact seg (A := H) (X := putL (byF b.f) 1) (C := putL (b.root.p + b.root.e).toNat 2 ++ nb 6 b.root.a ++ putL b.cost.toNat 4 ++ putL (b.snd.p + b.snd.e).toNat 2 ++ nb 6 b.snd.a ++ putL (256 * b.pp + b.pn).toNat 2 ++ putL b.age.toNat 2 ++ putL b.mx.toNat 2 ++ putL b.hel.toNat 2 ++ putL b.wai.toNat 2 ++ C) (by rw [h]; simp only [List.append_assoc]) (by simp only [List.length_append, putL_length, nb6_len, hH]) (by first | exact putL_length _ _ | exact nb6_len _)
  · exact seg (A := H ++ putL (byF b.f) 1) (X := putL (b.root.p + b.root.e).toNat 2) (C := nb 6 b.root.a ++ putL b.cost.toNat 4 ++ putL (b.snd.p + b.snd.e).toNat 2 ++ nb 6 b.snd.a ++ putL (256 * b.pp + b.pn).toNat 2 ++ putL b.age.toNat 2 ++ putL b.mx.toNat 2 ++ putL b.hel.toNat 2 ++ putL b.wai.toNat 2 ++ C) (by rw [h]; simp only [List.append_assoc]) (by simp only [List.length_append, putL_length, nb6_len, hH]) (by first | exact putL_length _ _ | exact nb6_len _)
  · exact seg (A := H ++ putL (byF b.f) 1 ++ putL (b.root.p + b.root.e).toNat 2) (X := nb 6 b.root.a) (C := putL b.cost.toNat 4 ++ putL (b.snd.p + b.snd.e).toNat 2 ++ nb 6 b.snd.a ++ putL (256 * b.pp + b.pn).toNat 2 ++ putL b.age.toNat 2 ++ putL b.mx.toNat 2 ++ putL b.hel.toNat 2 ++ putL b.wai.toNat 2 ++ C) (by rw [h]; simp only [List.append_assoc]) (by simp only [List.length_append, putL_length, nb6_len, hH]) (by first | exact putL_length _ _ | exact nb6_len _)
  · exact seg (A := H ++ putL (byF b.f) 1 ++ putL (b.root.p + b.root.e).toNat 2 ++ nb 6 b.root.a) (X := putL b.cost.toNat 4) (C := putL (b.snd.p + b.snd.e).toNat 2 ++ nb 6 b.snd.a ++ putL (256 * b.pp + b.pn).toNat 2 ++ putL b.age.toNat 2 ++ putL b.mx.toNat 2 ++ putL b.hel.toNat 2 ++ putL b.wai.toNat 2 ++ C) (by rw [h]; simp only [List.append_assoc]) (by simp only [List.length_append, putL_length, nb6_len, hH]) (by first | exact putL_length _ _ | exact nb6_len _)
  · exact seg (A := H ++ putL (byF b.f) 1 ++ putL (b.root.p + b.root.e).toNat 2 ++ nb 6 b.root.a ++ putL b.cost.toNat 4) (X := putL (b.snd.p + b.snd.e).toNat 2) (C := nb 6 b.snd.a ++ putL (256 * b.pp + b.pn).toNat 2 ++ putL b.age.toNat 2 ++ putL b.mx.toNat 2 ++ putL b.hel.toNat 2 ++ putL b.wai.toNat 2 ++ C) (by rw [h]; simp only [List.append_assoc]) (by simp only [List.length_append, putL_length, nb6_len, hH]) (by first | exact putL_length _ _ | exact nb6_len _)
  · exact seg (A := H ++ putL (byF b.f) 1 ++ putL (b.root.p + b.root.e).toNat 2 ++ nb 6 b.root.a ++ putL b.cost.toNat 4 ++ putL (b.snd.p + b.snd.e).toNat 2) (X := nb 6 b.snd.a) (C := putL (256 * b.pp + b.pn).toNat 2 ++ putL b.age.toNat 2 ++ putL b.mx.toNat 2 ++ putL b.hel.toNat 2 ++ putL b.wai.toNat 2 ++ C) (by rw [h]; simp only [List.append_assoc]) (by simp only [List.length_append, putL_length, nb6_len, hH]) (by first | exact putL_length _ _ | exact nb6_len _)
  · exact seg (A := H ++ putL (byF b.f) 1 ++ putL (b.root.p + b.root.e).toNat 2 ++ nb 6 b.root.a ++ putL b.cost.toNat 4 ++ putL (b.snd.p + b.snd.e).toNat 2 ++ nb 6 b.snd.a) (X := putL (256 * b.pp + b.pn).toNat 2) (C := putL b.age.toNat 2 ++ putL b.mx.toNat 2 ++ putL b.hel.toNat 2 ++ putL b.wai.toNat 2 ++ C) (by rw [h]; simp only [List.append_assoc]) (by simp only [List.length_append, putL_length, nb6_len, hH]) (by first | exact putL_length _ _ | exact nb6_len _)
  · exact seg (A := H ++ putL (byF b.f) 1 ++ putL (b.root.p + b.root.e).toNat 2 ++ nb 6 b.root.a ++ putL b.cost.toNat 4 ++ putL (b.snd.p + b.snd.e).toNat 2 ++ nb 6 b.snd.a ++ putL (256 * b.pp + b.pn).toNat 2) (X := putL b.age.toNat 2) (C := putL b.mx.toNat 2 ++ putL b.hel.toNat 2 ++ putL b.wai.toNat 2 ++ C) (by rw [h]; simp only [List.append_assoc]) (by simp only [List.length_append, putL_length, nb6_len, hH]) (by first | exact putL_length _ _ | exact nb6_len _)
  · exact seg (A := H ++ putL (byF b.f) 1 ++ putL (b.root.p + b.root.e).toNat 2 ++ nb 6 b.root.a ++ putL b.cost.toNat 4 ++ putL (b.snd.p + b.snd.e).toNat 2 ++ nb 6 b.snd.a ++ putL (256 * b.pp + b.pn).toNat 2 ++ putL b.age.toNat 2) (X := putL b.mx.toNat 2) (C := putL b.hel.toNat 2 ++ putL b.wai.toNat 2 ++ C) (by rw [h]; simp only [List.append_assoc]) (by simp only [List.length_append, putL_length, nb6_len, hH]) (by first | exact putL_length _ _ | exact nb6_len _)
  · exact seg (A := H ++ putL (byF b.f) 1 ++ putL (b.root.p + b.root.e).toNat 2 ++ nb 6 b.root.a ++ putL b.cost.toNat 4 ++ putL (b.snd.p + b.snd.e).toNat 2 ++ nb 6 b.snd.a ++ putL (256 * b.pp + b.pn).toNat 2 ++ putL b.age.toNat 2 ++ putL b.mx.toNat 2) (X := putL b.hel.toNat 2) (C := putL b.wai.toNat 2 ++ C) (by rw [h]; simp only [List.append_assoc]) (by simp only [List.length_append, putL_length, nb6_len, hH]) (by first | exact putL_length _ _ | exact nb6_len _)
  · exact seg (A := H ++ putL (byF b.f) 1 ++ putL (b.root.p + b.root.e).toNat 2 ++ nb 6 b.root.a ++ putL b.cost.toNat 4 ++ putL (b.snd.p + b.snd.e).toNat 2 ++ nb 6 b.snd.a ++ putL (256 * b.pp + b.pn).toNat 2 ++ putL b.age.toNat 2 ++ putL b.mx.toNat 2 ++ putL b.hel.toNat 2) (X := putL b.wai.toNat 2) (C := C) (by rw [h]; simp only [List.append_assoc]) (by simp only [List.length_append, putL_length, nb6_len, hH]) (by first | exact putL_length _ _ | exact nb6_len _)

theorem inL_back {b : Bp} {s : ByteArray} (h : InL b s.data.toList 4) (hx : byBp b) (hf : okF b.f = true) (hb : okBd b = true) (k : Int) (hk : b.k = k) : bpC (bpAt s 4 k) = bpC b ∧ pzAt s (4 + 21) = false := by
  obtain ⟨hroot, hsnd, hport, hcost, hage, hmx, hhel, hwai⟩ := okBd_all hb
  obtain ⟨f0, f1, f2, f3, f4, f5, f6, f7, f8, f9, f10⟩ := h
  obtain ⟨p0, p1, pm, e0, e1⟩ := okB_all hroot
  obtain ⟨s0, s1, sm, t0, t1⟩ := okB_all hsnd
  obtain ⟨u0, u1, um, v0, v1⟩ := okPt_all hport
  have hz : (beAt s (4 + 21) : Int) = 256 * b.pp + b.pn := by
    unfold beAt
    rw [f6, beN_putL_fits _ _ (by omega)]
    omega
  refine ⟨bpC_congr _ _ hk.symm ?_ ?_ ?_ ?_ ?_ ?_ ?_ ?_ ?_ ?_, ?_⟩
  · show ofF (numAt s 4 1) = b.f
    unfold numAt
    rw [f0, beN_putL_fits _ _ (by have := byF_lt b.f hf; simpa using this), ofF_by b.f hf]
  · exact br_back b.root hx.1 hroot (brAt s (4 + 1)) (beAt s (4 + 1)) ((s.data.toList.drop (4 + 3)).take 6) rfl (by unfold beAt; rw [f1, beN_putL_fits _ _ (by omega)]; omega) f2
  · show ((numAt s (4 + 9) 4 : Nat) : Int) = b.cost
    unfold numAt
    rw [f3, nat_i _ _ hcost]
  · exact br_back b.snd hx.2 hsnd (brAt s (4 + 13)) (beAt s (4 + 13)) ((s.data.toList.drop (4 + 15)).take 6) rfl (by unfold beAt; rw [f4, beN_putL_fits _ _ (by omega)]; omega) f5
  · show (beAt s (4 + 21) : Int) / 4096 * 16 = b.pp
    rw [hz]
    omega
  · show (beAt s (4 + 21) : Int) % 4096 = b.pn
    rw [hz]
    omega
  · show ((numAt s (4 + 23) 2 : Nat) : Int) = b.age
    unfold numAt
    rw [f7, nat_i _ _ hage]
  · show ((numAt s (4 + 25) 2 : Nat) : Int) = b.mx
    unfold numAt
    rw [f8, nat_i _ _ hmx]
  · show ((numAt s (4 + 27) 2 : Nat) : Int) = b.hel
    unfold numAt
    rw [f9, nat_i _ _ hhel]
  · show ((numAt s (4 + 29) 2 : Nat) : Int) = b.wai
    unfold numAt
    rw [f10, nat_i _ _ hwai]
  · unfold pzAt
    rw [beq_eq_false_iff_ne]
    omega

end Go.Proofs.YtdjljnpbnhampaaDoor
