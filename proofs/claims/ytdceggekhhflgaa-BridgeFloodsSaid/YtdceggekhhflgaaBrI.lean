/- package bridge: In. -/
import Derived.Test.YtdceggekhhflgaaBrP
import Derived.Test.YtdceggekhhflgaaMacRes
namespace Go.Proofs.Ytdceggekhhflgaa
open Go.RowKit
attribute [local go_sem ↓] Go.wp_at_zero Go.wp_at_succ
set_option linter.unusedSimpArgs false
set_option linter.unusedVariables false
set_option maxRecDepth 100000
set_option linter.unusedSectionVars false
variable [Zone]

/-- What a bridge answers, and what it knows then. -/
structure InR where
  err : Int
  last : Int
  E : List Ent
  out : List Nat

def grpB (a : Nat → Nat) : Bool := decide (a 0 % 2 = 1)

def deadB (p : Ps) (vid : Int) (d : Nat → Nat) : Bool := (p.st == 1) || ((vid == 0) || decide (0 ≤ resv d))

/-- .. at a port that there is, of a frame that may be. -/
def liveM (ps : List Ps) (age last : Int) (E : List Ent) (port : Int) (f : Fr) (now : Int) (p : Ps) : InR :=
  let vid := vidM ps port f.tl
  if deadB p vid f.d then ⟨0, last, E, []⟩ else
  let e := if grpB f.s then 0 else learnErr last vid f.s port now
  if e ≠ 0 then ⟨e, last, E, []⟩ else
  let last' := if grpB f.s then last else now
  let E' := if grpB f.s then E else learnM age E vid f.s port now
  if p.st = 3 then ⟨0, last', E', outM (lookM age E' vid f.d now) port vid ps⟩ else ⟨0, last', E', []⟩

def inM (ps : List Ps) (age last : Int) (E : List Ent) (port : Int) (f : Fr) (now : Int) : InR :=
  if hasB ps.length port = false then ⟨2, last, E, []⟩ else if rightB f = false then ⟨1, last, E, []⟩ else liveM ps age last E port f now (ps.getD port.toNat zPs)

theorem inM_live {hs : List PsH} {k : Nat} (hk : k < hs.length) {f : Fr} (hr : rightB f = true) {age last now : Int} {E : List Ent} : inM (hs.map PsH.x) age last E (k : Int) f now = liveM (hs.map PsH.x) age last E (k : Int) f now hs[k].x := by
  have h1 : hasB (hs.map PsH.x).length (k : Int) = true := by
    unfold hasB
    rw [decide_eq_true (by omega), decide_eq_true (by rw [List.length_map]; omega)]
    rfl
  unfold inM
  rw [h1, hr, if_neg (by simp), if_neg (by simp)]
  simp [hk]

/-- Tags that are there whatever a table does: below B, or in a block of tags. -/
def TagsK (w : World) (B : Nat) (a : Option Addr) (l : List Tg) : Prop := l = [] ∨ ∃ b lo, a = some ⟨b, lo, none⟩ ∧ b < w.heap.size ∧ (b < B ∨ ∃ C, Blk w b 68 C) ∧ TagsAt w b lo l

theorem TagsK.inL {w : World} {B : Nat} {a : Option Addr} {l : List Tg} (h : TagsK w B a l) : TagsIn w a l := by
  rcases h with h | ⟨b, lo, e1, e2, _, e4⟩
  · exact Or.inl h
  · exact Or.inr ⟨b, lo, e1, e2, e4⟩

theorem TagsAt.blk {w w' : World} {b lo : Nat} {l : List Tg} (h : TagsAt w b lo l) (hb : w'.heap[b]? = w.heap[b]?) : TagsAt w' b lo l := by
  intro j hj
  obtain ⟨h0, h1, h2, h3⟩ := h j hj
  have q : ∀ o, w'.cell? ⟨b, o, none⟩ = w.cell? ⟨b, o, none⟩ := fun o => World.cell?_of_block (a := ⟨b, o, none⟩) hb
  exact ⟨(q _).trans h0, (q _).trans h1, (q _).trans h2, (q _).trans h3⟩

theorem TagsK.lx {w w' : World} {B : Nat} {a : Option Addr} {l : List Tg} (h : TagsK w B a l) (hx : Lx B LT w w') : TagsK w' B a l := by
  rcases h with h | ⟨b, lo, e1, e2, e3, e4⟩
  · exact Or.inl h
  · have hq : w'.heap[b]? = w.heap[b]? := hx.block b e2 (by
      rcases e3 with e3 | ⟨C, e3⟩
      · exact Or.inl e3
      · exact Or.inr <| Or.inr fun T C' hT hb => by rw [blk_type hb e3] at hT; exact absurd hT (by decide))
    refine Or.inr ⟨b, lo, e1, Nat.lt_of_lt_of_le e2 hx.size, ?_, e4.blk hq⟩
    rcases e3 with e3 | ⟨C, e3⟩
    · exact Or.inl e3
    · exact Or.inr ⟨C, hq.trans e3⟩

theorem TagsK.kept {w w' : World} {B : Nat} {a : Option Addr} {l : List Tg} (h : TagsK w B a l) (hb : Below w.heap.size w w') : TagsK w' B a l := h.lx (Lx.of hb)

theorem TagsK.low {w : World} {B : Nat} {a : Option Addr} {l : List Tg} (h : TagsIn w a l) (hB : w.heap.size ≤ B) : TagsK w B a l := by
  rcases h with h | ⟨b, lo, e1, e2, e4⟩
  · exact Or.inl h
  · exact Or.inr ⟨b, lo, e1, e2, Or.inl (Nat.lt_of_lt_of_le e2 hB), e4⟩

def InPost (B b t c : Nat) (ad : Option Addr) (hs : List PsH) (age last : Int) (E : List Ent) (port now : Int) (f : Fr) (w : World) (e : Ending) (w' : World) : Prop :=
  ∃ v ss, e = .returned (.tuple #[v, errV (inM (hs.map PsH.x) age last E port f now).err]) ∧ OwnSnH w' w.heap.size v ss ∧ Sents w' f (vidM (hs.map PsH.x) port f.tl) (hs.map PsH.x) (inM (hs.map PsH.x) age last E port f now).out ss ∧
    BrgAt w' B b t c ad hs age (inM (hs.map PsH.x) age last E port f now).last (inM (hs.map PsH.x) age last E port f now).E ∧ Lx B LT w w'

theorem InPost.none {B b t c : Nat} {ad : Option Addr} {hs : List PsH} {age last : Int} {E : List Ent} {port now : Int} {f : Fr} {w w' : World} {er : Value} {r : InR}
    (hr : inM (hs.map PsH.x) age last E port f now = r) (he : er = errV r.err) (ho : r.out = []) (hb : BrgAt w' B b t c ad hs age r.last r.E) (hx : Lx B LT w w') : InPost B b t c ad hs age last E port now f w (.returned (.tuple #[.slice none 0 0, er])) w' := by
  unfold InPost
  rw [hr, ho, he]
  exact ⟨_, [], rfl, OwnSnH.nil _ _, trivial, hb, hx⟩

theorem InPost.some {B b t c : Nat} {ad : Option Addr} {hs : List PsH} {age last : Int} {E : List Ent} {port now : Int} {f : Fr} {w w1 w' : World} {V : Int} {v : Value} {ss : List SnH} {l2 : Int} {E2 : List Ent} {out : List Nat}
    (hr : inM (hs.map PsH.x) age last E port f now = ⟨0, l2, E2, out⟩) (hV : vidM (hs.map PsH.x) port f.tl = V) (ho : OwnSnH w' w1.heap.size v ss) (h1 : w.heap.size ≤ w1.heap.size) (hs' : Sents w' f V (hs.map PsH.x) out ss) (hb : BrgAt w' B b t c ad hs age l2 E2) (hx : Lx B LT w w') : InPost B b t c ad hs age last E port now f w (.returned (.tuple #[v, .nilIface])) w' := by
  unfold InPost
  rw [hr, hV]
  exact ⟨v, ss, rfl, ho.mono h1, hs', hb, hx⟩
section
variable {B b t c : Nat} {ad : Option Addr} {hs : List PsH} {age last : Int} {E : List Ent} {port now : Int} {f : Fr} {w : World}

set_option maxHeartbeats 1600000 in
theorem in_noport (h : BrgAt w B b t c ad hs age last E) (hb : hasB hs.length port = false) :
    Calls Try.prog 17 #[.pointer (some ⟨b, 0, none⟩), .int .i64 port, frV f, .int .i64 now] w fun e w' => InPost B b t c ad hs age last E port now f w e w' := by
  have b1 : Below w.heap.size w (w.alloc (.cells (frC f) 36)) := (Below.refl _ _).alloc (Nat.le_refl _) _
  have hF1 : Blk (w.alloc (.cells (frC f) 36)) w.heap.size 36 (frC f) := HasF.new w f
  have h1 := h.kept b1
  have HH := Lib.hid (fun w h => has_any (B := B) (b := b) (t := t) (c := c) (ad := ad) (hs := hs) (age := age) (last := last) (E := E) port w h)
  unfold frV
  rw [hb] at HH
  have HR : Hid (inM (hs.map PsH.x) age last E port f now = ⟨2, last, E, []⟩) := by
    show _ = _
    unfold inM
    rw [List.length_map, hb, if_pos rfl]
  clear hb
  go_enter Try.func17, Try.ntmps17
  go_upto_region 1 with (refine box_blk 36 (frC f) (by rfl) rfl rfl ?_)
  generalize w.alloc (.cells (frC f) 36) = w1 at *
  go_wp2_with (go_at_call 36; refine (HH.out _ h1).mono ?_; rintro e w' ⟨rfl, rfl⟩)
  go_ret2
  exact InPost.none HR.out rfl rfl h1 (Lx.of b1)

set_option maxHeartbeats 1600000 in
theorem in_wrong (h : BrgAt w B b t c ad hs age last E) (hf : FrIn w f) (hb : hasB hs.length port = true) (hr : rightB f = false) :
    Calls Try.prog 17 #[.pointer (some ⟨b, 0, none⟩), .int .i64 port, frV f, .int .i64 now] w fun e w' => InPost B b t c ad hs age last E port now f w e w' := by
  have b1 : Below w.heap.size w (w.alloc (.cells (frC f) 36)) := (Below.refl _ _).alloc (Nat.le_refl _) _
  have hF1 : Blk (w.alloc (.cells (frC f) 36)) w.heap.size 36 (frC f) := HasF.new w f
  have h1 := h.kept b1
  have HH := Lib.hid (fun w h => has_any (B := B) (b := b) (t := t) (c := c) (ad := ad) (hs := hs) (age := age) (last := last) (E := E) port w h)
  unfold frV
  have HRI := Lib.hid (right_frame f (w.alloc (.cells (frC f) 36)) (hf.below b1))
  rw [hr] at HRI
  rw [hb] at HH
  have HR : Hid (inM (hs.map PsH.x) age last E port f now = ⟨1, last, E, []⟩) := by
    show _ = _
    unfold inM
    rw [List.length_map, hb, if_neg (by simp), hr, if_pos rfl]
  clear hb
  go_enter Try.func17, Try.ntmps17
  go_upto_region 1 with (refine box_blk 36 (frC f) (by rfl) rfl rfl ?_)
  generalize w.alloc (.cells (frC f) 36) = w1 at *
  go_upto_region 3 with (go_at_call 36; refine (HH.out _ h1).mono ?_; rintro e w' ⟨rfl, rfl⟩)
  go_wp2_with (first
    | (refine load_blk 36 (frC f) (by rfl) rfl rfl hF1 (by kernel_rfl) (by kernel_rfl) (by rfl) ?_)
    | (go_at_call 33; refine HRI.out.mono ?_; rintro e w3 ⟨rfl, k3⟩))
  go_ret2
  exact InPost.none HR.out rfl rfl (h1.kept k3) (Lx.of (b1.trans (k3.mono b1.size)))

set_option maxHeartbeats 3200000 in
theorem in_dead (h : BrgAt w B b t c ad hs age last E) (hf : FrIn w f) (hd : ∀ i, f.d i < 256) (hb : hasB hs.length port = true) (hr : rightB f = true) (hdead : deadB ((hs.map PsH.x).getD port.toNat zPs) (vidM (hs.map PsH.x) port f.tl) f.d = true) :
    Calls Try.prog 17 #[.pointer (some ⟨b, 0, none⟩), .int .i64 port, frV f, .int .i64 now] w fun e w' => InPost B b t c ad hs age last E port now f w e w' := by
  have b1 : Below w.heap.size w (w.alloc (.cells (frC f) 36)) := (Below.refl _ _).alloc (Nat.le_refl _) _
  have hF1 : Blk (w.alloc (.cells (frC f) 36)) w.heap.size 36 (frC f) := HasF.new w f
  have h1 := h.kept b1
  have HH := Lib.hid (fun w h => has_any (B := B) (b := b) (t := t) (c := c) (ad := ad) (hs := hs) (age := age) (last := last) (E := E) port w h)
  unfold frV
  have HRI := Lib.hid (right_frame f (w.alloc (.cells (frC f) 36)) (hf.below b1))
  rw [hr] at HRI
  have hb' := hb
  rw [hb] at HH
  obtain ⟨k, rfl, hk⟩ := hasB_of hb
  obtain ⟨g, cur, rfl, hg, hgb, hcs⟩ := h1.at hk
  have hgl := hgb.lt
  have q1 : (k : Int) < (hs.length : Int) := by omega
  have q3 : (0 : Int) ≤ (k : Int) := by omega
  have hlive : (inM (hs.map PsH.x) age last E (k : Int) f now) = liveM (hs.map PsH.x) age last E (k : Int) f now hs[k].x := inM_live hk hr
  have HXG : Hid ((hs.map PsH.x).getD ((k : Int)).toNat zPs = hs[k].x) := by show _ = _; simp [hk]
  generalize hs[k] = x at *
  have hxg : (hs.map PsH.x).getD ((k : Int)).toNat zPs = x.x := HXG.out
  have HVC := Lib.hid (fun w h hT => vid_any (B := B) (b := b) (t := t) (c := c) (ad := (some ⟨g, 0, none⟩)) (hs := hs) (age := age) (last := last) (E := E) (k : Int) f w h hT hf.few)
  have HV : Hid (∃ V, vidM (hs.map PsH.x) (k : Int) f.tl = V) := ⟨_, rfl⟩
  generalize hV : vidM (hs.map PsH.x) (k : Int) f.tl = V at *
  rw [hxg] at hdead
  have HRD : Hid (deadB x.x V f.d = true → inM (hs.map PsH.x) age last E (k : Int) f now = ⟨0, last, E, []⟩) := fun q => by
    rw [hlive]
    unfold liveM
    simp only [hV, q, if_true]
  clear hlive hxg
  have HRES : Hid (∀ W, Calls Try.prog 39 #[.agg (c6 f.d)] W fun e w' => e = .returned (.int .i64 (resv f.d)) ∧ Below W.heap.size W w') := fun W => reserved_any f.d hd W
  clear hd
  generalize hrv : resv f.d = rv at *
  cases e1 : (x.x.st == 1)
  · cases e2 : (V == 0)
    · have e3 : decide (0 ≤ rv) = true := by
        unfold deadB at hdead
        rw [hrv, e1, e2] at hdead
        simpa using hdead
      have HR := Lib.hid (HRD.out hdead)
      clear hdead HRD
      go_enter Try.func17, Try.ntmps17
      go_upto_region 1 with (refine box_blk 36 (frC f) (by rfl) rfl rfl ?_)
      generalize w.alloc (.cells (frC f) 36) = w1 at *
      go_upto_region 3 with (go_at_call 36; refine (HH.out _ h1).mono ?_; rintro e w' ⟨rfl, rfl⟩)
      go_upto_region 5 with (first
        | (refine load_blk 36 (frC f) (by rfl) rfl rfl hF1 (by kernel_rfl) (by kernel_rfl) (by rfl) ?_)
        | (go_at_call 33; refine HRI.out.mono ?_; rintro e w3 ⟨rfl, k3⟩))
      have h3 := h1.kept k3
      have hF3 := hF1.kept k3
      have hcs3 := hcs.below k3 hgl
      have hgl3 : g < w3.heap.size := Nat.lt_of_lt_of_le hgl k3.size
      replace k3 := b1.trans (k3.mono b1.size)
      refine wp_region_noPanic ?_
      refine wp_region_held_drew (S := (fun w' => BrgAt w' B b t c (some ⟨g, 0, none⟩) hs age last E ∧ Blk w' w.heap.size 36 (frC f) ∧ CellsAt w' g (k * 4) (psC x))) (by kernel_rfl) ?_ (fun hHeld => ?_)
      · exact ⟨h3.kept (Below.refl _ _).drew, hF3, hcs3⟩
      refine wpAnyH_take (i := 0) (v := ?_) rfl (by kernel_rfl) (by kernel_rfl) (by kernel_rfl) (fun _ _ _ h => h) (Or.inl ⟨by rfl, ?_⟩) (by assumption) ?_
      rotate_left
      · (intro w hSw; (try dsimp only at hSw); go_simp; (try with_reducible rfl))
      (try simp only [Act.put, List.getElem_toArray, List.getElem_cons_zero, List.getElem_cons_succ, List.setIfInBounds_toArray, List.set_cons_zero, List.set_cons_succ])
      refine wpAnyH_take (i := 1) (v := ?_) rfl (by kernel_rfl) (by kernel_rfl) (by kernel_rfl) (fun _ _ _ h => h) (Or.inl ⟨by rfl, ?_⟩) (by assumption) ?_
      rotate_left
      · (intro w hSw; (try dsimp only at hSw); go_simp; (try with_reducible rfl))
      (try simp only [Act.put, List.getElem_toArray, List.getElem_cons_zero, List.getElem_cons_succ, List.setIfInBounds_toArray, List.set_cons_zero, List.set_cons_succ])
      refine wpAnyH_take (i := 2) (v := ?_) rfl (by kernel_rfl) (by kernel_rfl) (by kernel_rfl) (fun _ _ _ h => h) (Or.inl ⟨by rfl, ?_⟩) (by assumption) ?_
      rotate_left
      · (intro w hSw; (try dsimp only at hSw); go_simp; (try with_reducible rfl))
      (try simp only [Act.put, List.getElem_toArray, List.getElem_cons_zero, List.getElem_cons_succ, List.setIfInBounds_toArray, List.set_cons_zero, List.set_cons_succ])
      refine wpAnyH_take (i := 3) (v := .slice (some ⟨g, 0, none⟩) hs.length c) rfl (by kernel_rfl) (by kernel_rfl) (by kernel_rfl) (fun _ _ _ h => h) (Or.inl ⟨by rfl, fun w hSw => by have c := hSw.1.blk.cv 0 (.slice (some ⟨g, 0, none⟩) hs.length c) rfl; go_simp⟩) (by assumption) ?_
      (try simp only [Act.put, List.getElem_toArray, List.getElem_cons_zero, List.getElem_cons_succ, List.setIfInBounds_toArray, List.set_cons_zero, List.set_cons_succ])
      refine wpAnyH_take (i := 4) (v := ?_) rfl (by kernel_rfl) (by kernel_rfl) (by kernel_rfl) (fun _ _ _ h => h) (Or.inl ⟨by rfl, ?_⟩) (by assumption) ?_
      rotate_left
      · (intro w hSw; (try dsimp only at hSw); go_simp; (try with_reducible rfl))
      (try simp only [Act.put, List.getElem_toArray, List.getElem_cons_zero, List.getElem_cons_succ, List.setIfInBounds_toArray, List.set_cons_zero, List.set_cons_succ])
      refine wpAnyH_take (i := 5) (v := ?_) rfl (by kernel_rfl) (by kernel_rfl) (by kernel_rfl) (fun _ _ _ h => h) (Or.inl ⟨by rfl, ?_⟩) (by assumption) ?_
      rotate_left
      · (intro w hSw; (try dsimp only at hSw); go_simp; (try with_reducible rfl))
      (try simp only [Act.put, List.getElem_toArray, List.getElem_cons_zero, List.getElem_cons_succ, List.setIfInBounds_toArray, List.set_cons_zero, List.set_cons_succ])
      refine wpAnyH_take (i := 6) (v := ?_) rfl (by kernel_rfl) (by kernel_rfl) (by kernel_rfl) (fun _ _ _ h => h) (Or.inl ⟨by rfl, ?_⟩) (by assumption) ?_
      rotate_left
      · (intro w hSw; (try dsimp only at hSw); go_simp; (try with_reducible rfl))
      (try simp only [Act.put, List.getElem_toArray, List.getElem_cons_zero, List.getElem_cons_succ, List.setIfInBounds_toArray, List.set_cons_zero, List.set_cons_succ])
      refine wpAnyH_take (i := 7) (v := .int .i64 x.x.st) rfl (by kernel_rfl) (by kernel_rfl) (by kernel_rfl) (fun _ _ _ h => h) (Or.inl ⟨by rfl, fun w hSw => by have c := hSw.2.2 3 (.int .i64 x.x.st) rfl; go_simp⟩) (by assumption) ?_
      (try simp only [Act.put, List.getElem_toArray, List.getElem_cons_zero, List.getElem_cons_succ, List.setIfInBounds_toArray, List.set_cons_zero, List.set_cons_succ])
      refine wpAnyH_take (i := 8) (v := ?_) rfl (by kernel_rfl) (by kernel_rfl) (by kernel_rfl) (fun _ _ _ h => h) (Or.inl ⟨by rfl, ?_⟩) (by assumption) ?_
      rotate_left
      · (intro w hSw; (try dsimp only at hSw); go_simp; (try with_reducible rfl))
      (try simp only [Act.put, List.getElem_toArray, List.getElem_cons_zero, List.getElem_cons_succ, List.setIfInBounds_toArray, List.set_cons_zero, List.set_cons_succ])
      refine wpAnyH_take (i := 9) (v := ?_) rfl (by kernel_rfl) (by kernel_rfl) (by kernel_rfl) (fun _ _ _ h => h) (Or.inl ⟨by rfl, ?_⟩) (by assumption) ?_
      rotate_left
      · (intro w hSw; (try dsimp only at hSw); go_simp; (try with_reducible rfl))
      (try simp only [Act.put, List.getElem_toArray, List.getElem_cons_zero, List.getElem_cons_succ, List.setIfInBounds_toArray, List.set_cons_zero, List.set_cons_succ])
      refine wpAnyH_take (i := 10) (v := .agg (frC f)) rfl (by kernel_rfl) (by kernel_rfl) (by kernel_rfl) (fun _ _ _ h => h) (Or.inl ⟨by rfl, fun w hSw => exec_load_blk (k := 0) 36 (frC f) rfl rfl hSw.2.1 (by kernel_rfl) (by kernel_rfl) rfl⟩) (by assumption) ?_
      (try simp only [Act.put, List.getElem_toArray, List.getElem_cons_zero, List.getElem_cons_succ, List.setIfInBounds_toArray, List.set_cons_zero, List.set_cons_succ])
      refine wpAnyH_ready (rs := [11]) (by kernel_rfl) (by simp) ?_
      refine AllReadyH.cons rfl (fun K hK => ?_) AllReadyH.nil
      simp only [List.getElem_toArray, List.getElem_cons_zero, List.getElem_cons_succ]
      go_simp
      refine (HVC.out _ hHeld.1 (hf.tags.below k3.drew)).mono ?_
      rintro e w4 ⟨rfl, k4⟩
      have h4 := hHeld.1.kept k4
      have hF4 := hHeld.2.1.kept k4
      have hcs4 := hHeld.2.2.below k4 hgl3
      refine hK.out _ _ ?_ (fun hHeld => ?_)
      · exact ⟨h4, hF4, hcs4⟩
      clear hK K
      (try simp only [Act.put, List.getElem_toArray, List.getElem_cons_zero, List.getElem_cons_succ, List.setIfInBounds_toArray, List.set_cons_zero, List.set_cons_succ])
      refine wpAnyH_take (i := 12) (v := ?_) rfl (by kernel_rfl) (by kernel_rfl) (by kernel_rfl) (fun _ _ _ h => h) (Or.inl ⟨by rfl, ?_⟩) (by assumption) ?_
      rotate_left
      · (intro w hSw; (try dsimp only at hSw); go_simp; (try with_reducible rfl))
      (try simp only [Act.put, List.getElem_toArray, List.getElem_cons_zero, List.getElem_cons_succ, List.setIfInBounds_toArray, List.set_cons_zero, List.set_cons_succ])
      refine wpAnyH_take (i := 13) (v := ?_) rfl (by kernel_rfl) (by kernel_rfl) (by kernel_rfl) (fun _ _ _ h => h) (Or.inl ⟨by rfl, ?_⟩) (by assumption) ?_
      rotate_left
      · (intro w hSw; (try dsimp only at hSw); go_simp; (try with_reducible rfl))
      (try simp only [Act.put, List.getElem_toArray, List.getElem_cons_zero, List.getElem_cons_succ, List.setIfInBounds_toArray, List.set_cons_zero, List.set_cons_succ])
      refine wpAnyH_done (by kernel_rfl) ?_ _
      refine NoPanic.normal ?_
      go_wp2_with (first
        | (refine load_blk (k := 0) 33 (c6 f.d) (by rfl) rfl rfl hF4 (by kernel_rfl) (by kernel_rfl) (by rfl) ?_)
        | (go_at_call 39; refine (HRES.out _).mono ?_; rintro e w9 ⟨rfl, k9⟩))
      go_ret2
      exact InPost.none HR.out rfl rfl (h4.kept k9) (Lx.of ((k3.drew.trans (k4.mono k3.size)).trans (k9.mono (Nat.le_trans k3.size k4.size))))
    · have HR := Lib.hid (HRD.out hdead)
      clear hdead HRD
      go_enter Try.func17, Try.ntmps17
      go_upto_region 1 with (refine box_blk 36 (frC f) (by rfl) rfl rfl ?_)
      generalize w.alloc (.cells (frC f) 36) = w1 at *
      go_upto_region 3 with (go_at_call 36; refine (HH.out _ h1).mono ?_; rintro e w' ⟨rfl, rfl⟩)
      go_upto_region 5 with (first
        | (refine load_blk 36 (frC f) (by rfl) rfl rfl hF1 (by kernel_rfl) (by kernel_rfl) (by rfl) ?_)
        | (go_at_call 33; refine HRI.out.mono ?_; rintro e w3 ⟨rfl, k3⟩))
      have h3 := h1.kept k3
      have hF3 := hF1.kept k3
      have hcs3 := hcs.below k3 hgl
      have hgl3 : g < w3.heap.size := Nat.lt_of_lt_of_le hgl k3.size
      replace k3 := b1.trans (k3.mono b1.size)
      refine wp_region_noPanic ?_
      refine wp_region_held_drew (S := (fun w' => BrgAt w' B b t c (some ⟨g, 0, none⟩) hs age last E ∧ Blk w' w.heap.size 36 (frC f) ∧ CellsAt w' g (k * 4) (psC x))) (by kernel_rfl) ?_ (fun hHeld => ?_)
      · exact ⟨h3.kept (Below.refl _ _).drew, hF3, hcs3⟩
      refine wpAnyH_take (i := 0) (v := ?_) rfl (by kernel_rfl) (by kernel_rfl) (by kernel_rfl) (fun _ _ _ h => h) (Or.inl ⟨by rfl, ?_⟩) (by assumption) ?_
      rotate_left
      · (intro w hSw; (try dsimp only at hSw); go_simp; (try with_reducible rfl))
      (try simp only [Act.put, List.getElem_toArray, List.getElem_cons_zero, List.getElem_cons_succ, List.setIfInBounds_toArray, List.set_cons_zero, List.set_cons_succ])
      refine wpAnyH_take (i := 1) (v := ?_) rfl (by kernel_rfl) (by kernel_rfl) (by kernel_rfl) (fun _ _ _ h => h) (Or.inl ⟨by rfl, ?_⟩) (by assumption) ?_
      rotate_left
      · (intro w hSw; (try dsimp only at hSw); go_simp; (try with_reducible rfl))
      (try simp only [Act.put, List.getElem_toArray, List.getElem_cons_zero, List.getElem_cons_succ, List.setIfInBounds_toArray, List.set_cons_zero, List.set_cons_succ])
      refine wpAnyH_take (i := 2) (v := ?_) rfl (by kernel_rfl) (by kernel_rfl) (by kernel_rfl) (fun _ _ _ h => h) (Or.inl ⟨by rfl, ?_⟩) (by assumption) ?_
      rotate_left
      · (intro w hSw; (try dsimp only at hSw); go_simp; (try with_reducible rfl))
      (try simp only [Act.put, List.getElem_toArray, List.getElem_cons_zero, List.getElem_cons_succ, List.setIfInBounds_toArray, List.set_cons_zero, List.set_cons_succ])
      refine wpAnyH_take (i := 3) (v := .slice (some ⟨g, 0, none⟩) hs.length c) rfl (by kernel_rfl) (by kernel_rfl) (by kernel_rfl) (fun _ _ _ h => h) (Or.inl ⟨by rfl, fun w hSw => by have c := hSw.1.blk.cv 0 (.slice (some ⟨g, 0, none⟩) hs.length c) rfl; go_simp⟩) (by assumption) ?_
      (try simp only [Act.put, List.getElem_toArray, List.getElem_cons_zero, List.getElem_cons_succ, List.setIfInBounds_toArray, List.set_cons_zero, List.set_cons_succ])
      refine wpAnyH_take (i := 4) (v := ?_) rfl (by kernel_rfl) (by kernel_rfl) (by kernel_rfl) (fun _ _ _ h => h) (Or.inl ⟨by rfl, ?_⟩) (by assumption) ?_
      rotate_left
      · (intro w hSw; (try dsimp only at hSw); go_simp; (try with_reducible rfl))
      (try simp only [Act.put, List.getElem_toArray, List.getElem_cons_zero, List.getElem_cons_succ, List.setIfInBounds_toArray, List.set_cons_zero, List.set_cons_succ])
      refine wpAnyH_take (i := 5) (v := ?_) rfl (by kernel_rfl) (by kernel_rfl) (by kernel_rfl) (fun _ _ _ h => h) (Or.inl ⟨by rfl, ?_⟩) (by assumption) ?_
      rotate_left
      · (intro w hSw; (try dsimp only at hSw); go_simp; (try with_reducible rfl))
      (try simp only [Act.put, List.getElem_toArray, List.getElem_cons_zero, List.getElem_cons_succ, List.setIfInBounds_toArray, List.set_cons_zero, List.set_cons_succ])
      refine wpAnyH_take (i := 6) (v := ?_) rfl (by kernel_rfl) (by kernel_rfl) (by kernel_rfl) (fun _ _ _ h => h) (Or.inl ⟨by rfl, ?_⟩) (by assumption) ?_
      rotate_left
      · (intro w hSw; (try dsimp only at hSw); go_simp; (try with_reducible rfl))
      (try simp only [Act.put, List.getElem_toArray, List.getElem_cons_zero, List.getElem_cons_succ, List.setIfInBounds_toArray, List.set_cons_zero, List.set_cons_succ])
      refine wpAnyH_take (i := 7) (v := .int .i64 x.x.st) rfl (by kernel_rfl) (by kernel_rfl) (by kernel_rfl) (fun _ _ _ h => h) (Or.inl ⟨by rfl, fun w hSw => by have c := hSw.2.2 3 (.int .i64 x.x.st) rfl; go_simp⟩) (by assumption) ?_
      (try simp only [Act.put, List.getElem_toArray, List.getElem_cons_zero, List.getElem_cons_succ, List.setIfInBounds_toArray, List.set_cons_zero, List.set_cons_succ])
      refine wpAnyH_take (i := 8) (v := ?_) rfl (by kernel_rfl) (by kernel_rfl) (by kernel_rfl) (fun _ _ _ h => h) (Or.inl ⟨by rfl, ?_⟩) (by assumption) ?_
      rotate_left
      · (intro w hSw; (try dsimp only at hSw); go_simp; (try with_reducible rfl))
      (try simp only [Act.put, List.getElem_toArray, List.getElem_cons_zero, List.getElem_cons_succ, List.setIfInBounds_toArray, List.set_cons_zero, List.set_cons_succ])
      refine wpAnyH_take (i := 9) (v := ?_) rfl (by kernel_rfl) (by kernel_rfl) (by kernel_rfl) (fun _ _ _ h => h) (Or.inl ⟨by rfl, ?_⟩) (by assumption) ?_
      rotate_left
      · (intro w hSw; (try dsimp only at hSw); go_simp; (try with_reducible rfl))
      (try simp only [Act.put, List.getElem_toArray, List.getElem_cons_zero, List.getElem_cons_succ, List.setIfInBounds_toArray, List.set_cons_zero, List.set_cons_succ])
      refine wpAnyH_take (i := 10) (v := .agg (frC f)) rfl (by kernel_rfl) (by kernel_rfl) (by kernel_rfl) (fun _ _ _ h => h) (Or.inl ⟨by rfl, fun w hSw => exec_load_blk (k := 0) 36 (frC f) rfl rfl hSw.2.1 (by kernel_rfl) (by kernel_rfl) rfl⟩) (by assumption) ?_
      (try simp only [Act.put, List.getElem_toArray, List.getElem_cons_zero, List.getElem_cons_succ, List.setIfInBounds_toArray, List.set_cons_zero, List.set_cons_succ])
      refine wpAnyH_ready (rs := [11]) (by kernel_rfl) (by simp) ?_
      refine AllReadyH.cons rfl (fun K hK => ?_) AllReadyH.nil
      simp only [List.getElem_toArray, List.getElem_cons_zero, List.getElem_cons_succ]
      go_simp
      refine (HVC.out _ hHeld.1 (hf.tags.below k3.drew)).mono ?_
      rintro e w4 ⟨rfl, k4⟩
      have h4 := hHeld.1.kept k4
      have hF4 := hHeld.2.1.kept k4
      have hcs4 := hHeld.2.2.below k4 hgl3
      refine hK.out _ _ ?_ (fun hHeld => ?_)
      · exact ⟨h4, hF4, hcs4⟩
      clear hK K
      (try simp only [Act.put, List.getElem_toArray, List.getElem_cons_zero, List.getElem_cons_succ, List.setIfInBounds_toArray, List.set_cons_zero, List.set_cons_succ])
      refine wpAnyH_take (i := 12) (v := ?_) rfl (by kernel_rfl) (by kernel_rfl) (by kernel_rfl) (fun _ _ _ h => h) (Or.inl ⟨by rfl, ?_⟩) (by assumption) ?_
      rotate_left
      · (intro w hSw; (try dsimp only at hSw); go_simp; (try with_reducible rfl))
      (try simp only [Act.put, List.getElem_toArray, List.getElem_cons_zero, List.getElem_cons_succ, List.setIfInBounds_toArray, List.set_cons_zero, List.set_cons_succ])
      refine wpAnyH_take (i := 13) (v := ?_) rfl (by kernel_rfl) (by kernel_rfl) (by kernel_rfl) (fun _ _ _ h => h) (Or.inl ⟨by rfl, ?_⟩) (by assumption) ?_
      rotate_left
      · (intro w hSw; (try dsimp only at hSw); go_simp; (try with_reducible rfl))
      (try simp only [Act.put, List.getElem_toArray, List.getElem_cons_zero, List.getElem_cons_succ, List.setIfInBounds_toArray, List.set_cons_zero, List.set_cons_succ])
      refine wpAnyH_done (by kernel_rfl) ?_ _
      refine NoPanic.normal ?_
      go_wp2
      go_ret2
      exact InPost.none HR.out rfl rfl h4 (Lx.of (k3.drew.trans (k4.mono k3.size)))
  · have HR := Lib.hid (HRD.out hdead)
    clear hdead HRD
    go_enter Try.func17, Try.ntmps17
    go_upto_region 1 with (refine box_blk 36 (frC f) (by rfl) rfl rfl ?_)
    generalize w.alloc (.cells (frC f) 36) = w1 at *
    go_upto_region 3 with (go_at_call 36; refine (HH.out _ h1).mono ?_; rintro e w' ⟨rfl, rfl⟩)
    go_upto_region 5 with (first
      | (refine load_blk 36 (frC f) (by rfl) rfl rfl hF1 (by kernel_rfl) (by kernel_rfl) (by rfl) ?_)
      | (go_at_call 33; refine HRI.out.mono ?_; rintro e w3 ⟨rfl, k3⟩))
    have h3 := h1.kept k3
    have hF3 := hF1.kept k3
    have hcs3 := hcs.below k3 hgl
    have hgl3 : g < w3.heap.size := Nat.lt_of_lt_of_le hgl k3.size
    replace k3 := b1.trans (k3.mono b1.size)
    refine wp_region_noPanic ?_
    refine wp_region_held_drew (S := (fun w' => BrgAt w' B b t c (some ⟨g, 0, none⟩) hs age last E ∧ Blk w' w.heap.size 36 (frC f) ∧ CellsAt w' g (k * 4) (psC x))) (by kernel_rfl) ?_ (fun hHeld => ?_)
    · exact ⟨h3.kept (Below.refl _ _).drew, hF3, hcs3⟩
    refine wpAnyH_take (i := 0) (v := ?_) rfl (by kernel_rfl) (by kernel_rfl) (by kernel_rfl) (fun _ _ _ h => h) (Or.inl ⟨by rfl, ?_⟩) (by assumption) ?_
    rotate_left
    · (intro w hSw; (try dsimp only at hSw); go_simp; (try with_reducible rfl))
    (try simp only [Act.put, List.getElem_toArray, List.getElem_cons_zero, List.getElem_cons_succ, List.setIfInBounds_toArray, List.set_cons_zero, List.set_cons_succ])
    refine wpAnyH_take (i := 1) (v := ?_) rfl (by kernel_rfl) (by kernel_rfl) (by kernel_rfl) (fun _ _ _ h => h) (Or.inl ⟨by rfl, ?_⟩) (by assumption) ?_
    rotate_left
    · (intro w hSw; (try dsimp only at hSw); go_simp; (try with_reducible rfl))
    (try simp only [Act.put, List.getElem_toArray, List.getElem_cons_zero, List.getElem_cons_succ, List.setIfInBounds_toArray, List.set_cons_zero, List.set_cons_succ])
    refine wpAnyH_take (i := 2) (v := ?_) rfl (by kernel_rfl) (by kernel_rfl) (by kernel_rfl) (fun _ _ _ h => h) (Or.inl ⟨by rfl, ?_⟩) (by assumption) ?_
    rotate_left
    · (intro w hSw; (try dsimp only at hSw); go_simp; (try with_reducible rfl))
    (try simp only [Act.put, List.getElem_toArray, List.getElem_cons_zero, List.getElem_cons_succ, List.setIfInBounds_toArray, List.set_cons_zero, List.set_cons_succ])
    refine wpAnyH_take (i := 3) (v := .slice (some ⟨g, 0, none⟩) hs.length c) rfl (by kernel_rfl) (by kernel_rfl) (by kernel_rfl) (fun _ _ _ h => h) (Or.inl ⟨by rfl, fun w hSw => by have c := hSw.1.blk.cv 0 (.slice (some ⟨g, 0, none⟩) hs.length c) rfl; go_simp⟩) (by assumption) ?_
    (try simp only [Act.put, List.getElem_toArray, List.getElem_cons_zero, List.getElem_cons_succ, List.setIfInBounds_toArray, List.set_cons_zero, List.set_cons_succ])
    refine wpAnyH_take (i := 4) (v := ?_) rfl (by kernel_rfl) (by kernel_rfl) (by kernel_rfl) (fun _ _ _ h => h) (Or.inl ⟨by rfl, ?_⟩) (by assumption) ?_
    rotate_left
    · (intro w hSw; (try dsimp only at hSw); go_simp; (try with_reducible rfl))
    (try simp only [Act.put, List.getElem_toArray, List.getElem_cons_zero, List.getElem_cons_succ, List.setIfInBounds_toArray, List.set_cons_zero, List.set_cons_succ])
    refine wpAnyH_take (i := 5) (v := ?_) rfl (by kernel_rfl) (by kernel_rfl) (by kernel_rfl) (fun _ _ _ h => h) (Or.inl ⟨by rfl, ?_⟩) (by assumption) ?_
    rotate_left
    · (intro w hSw; (try dsimp only at hSw); go_simp; (try with_reducible rfl))
    (try simp only [Act.put, List.getElem_toArray, List.getElem_cons_zero, List.getElem_cons_succ, List.setIfInBounds_toArray, List.set_cons_zero, List.set_cons_succ])
    refine wpAnyH_take (i := 6) (v := ?_) rfl (by kernel_rfl) (by kernel_rfl) (by kernel_rfl) (fun _ _ _ h => h) (Or.inl ⟨by rfl, ?_⟩) (by assumption) ?_
    rotate_left
    · (intro w hSw; (try dsimp only at hSw); go_simp; (try with_reducible rfl))
    (try simp only [Act.put, List.getElem_toArray, List.getElem_cons_zero, List.getElem_cons_succ, List.setIfInBounds_toArray, List.set_cons_zero, List.set_cons_succ])
    refine wpAnyH_take (i := 7) (v := .int .i64 x.x.st) rfl (by kernel_rfl) (by kernel_rfl) (by kernel_rfl) (fun _ _ _ h => h) (Or.inl ⟨by rfl, fun w hSw => by have c := hSw.2.2 3 (.int .i64 x.x.st) rfl; go_simp⟩) (by assumption) ?_
    (try simp only [Act.put, List.getElem_toArray, List.getElem_cons_zero, List.getElem_cons_succ, List.setIfInBounds_toArray, List.set_cons_zero, List.set_cons_succ])
    refine wpAnyH_take (i := 8) (v := ?_) rfl (by kernel_rfl) (by kernel_rfl) (by kernel_rfl) (fun _ _ _ h => h) (Or.inl ⟨by rfl, ?_⟩) (by assumption) ?_
    rotate_left
    · (intro w hSw; (try dsimp only at hSw); go_simp; (try with_reducible rfl))
    (try simp only [Act.put, List.getElem_toArray, List.getElem_cons_zero, List.getElem_cons_succ, List.setIfInBounds_toArray, List.set_cons_zero, List.set_cons_succ])
    refine wpAnyH_take (i := 9) (v := ?_) rfl (by kernel_rfl) (by kernel_rfl) (by kernel_rfl) (fun _ _ _ h => h) (Or.inl ⟨by rfl, ?_⟩) (by assumption) ?_
    rotate_left
    · (intro w hSw; (try dsimp only at hSw); go_simp; (try with_reducible rfl))
    (try simp only [Act.put, List.getElem_toArray, List.getElem_cons_zero, List.getElem_cons_succ, List.setIfInBounds_toArray, List.set_cons_zero, List.set_cons_succ])
    refine wpAnyH_take (i := 10) (v := .agg (frC f)) rfl (by kernel_rfl) (by kernel_rfl) (by kernel_rfl) (fun _ _ _ h => h) (Or.inl ⟨by rfl, fun w hSw => exec_load_blk (k := 0) 36 (frC f) rfl rfl hSw.2.1 (by kernel_rfl) (by kernel_rfl) rfl⟩) (by assumption) ?_
    (try simp only [Act.put, List.getElem_toArray, List.getElem_cons_zero, List.getElem_cons_succ, List.setIfInBounds_toArray, List.set_cons_zero, List.set_cons_succ])
    refine wpAnyH_ready (rs := [11]) (by kernel_rfl) (by simp) ?_
    refine AllReadyH.cons rfl (fun K hK => ?_) AllReadyH.nil
    simp only [List.getElem_toArray, List.getElem_cons_zero, List.getElem_cons_succ]
    go_simp
    refine (HVC.out _ hHeld.1 (hf.tags.below k3.drew)).mono ?_
    rintro e w4 ⟨rfl, k4⟩
    have h4 := hHeld.1.kept k4
    have hF4 := hHeld.2.1.kept k4
    have hcs4 := hHeld.2.2.below k4 hgl3
    refine hK.out _ _ ?_ (fun hHeld => ?_)
    · exact ⟨h4, hF4, hcs4⟩
    clear hK K
    (try simp only [Act.put, List.getElem_toArray, List.getElem_cons_zero, List.getElem_cons_succ, List.setIfInBounds_toArray, List.set_cons_zero, List.set_cons_succ])
    refine wpAnyH_take (i := 12) (v := ?_) rfl (by kernel_rfl) (by kernel_rfl) (by kernel_rfl) (fun _ _ _ h => h) (Or.inl ⟨by rfl, ?_⟩) (by assumption) ?_
    rotate_left
    · (intro w hSw; (try dsimp only at hSw); go_simp; (try with_reducible rfl))
    (try simp only [Act.put, List.getElem_toArray, List.getElem_cons_zero, List.getElem_cons_succ, List.setIfInBounds_toArray, List.set_cons_zero, List.set_cons_succ])
    refine wpAnyH_take (i := 13) (v := ?_) rfl (by kernel_rfl) (by kernel_rfl) (by kernel_rfl) (fun _ _ _ h => h) (Or.inl ⟨by rfl, ?_⟩) (by assumption) ?_
    rotate_left
    · (intro w hSw; (try dsimp only at hSw); go_simp; (try with_reducible rfl))
    (try simp only [Act.put, List.getElem_toArray, List.getElem_cons_zero, List.getElem_cons_succ, List.setIfInBounds_toArray, List.set_cons_zero, List.set_cons_succ])
    refine wpAnyH_done (by kernel_rfl) ?_ _
    refine NoPanic.normal ?_
    go_wp2
    go_ret2
    exact InPost.none HR.out rfl rfl h4 (Lx.of (k3.drew.trans (k4.mono k3.size)))

set_option maxHeartbeats 6400000 in
theorem in_grp_quiet (h : BrgAt w B b t c ad hs age last E) (hf : FrIn w f) (hK : TagsK w B f.ta f.tl) (hd : ∀ i, f.d i < 256) (hsb : ∀ i, f.s i < 256) (hB : Zone.up B ≤ w.heap.size) (hb : hasB hs.length port = true) (hr : rightB f = true) (hlv : deadB ((hs.map PsH.x).getD port.toNat zPs) (vidM (hs.map PsH.x) port f.tl) f.d = false) (hgr : grpB f.s = true) (hst3 : ((hs.map PsH.x).getD port.toNat zPs).st ≠ 3) :
    Calls Try.prog 17 #[.pointer (some ⟨b, 0, none⟩), .int .i64 port, frV f, .int .i64 now] w fun e w' => InPost B b t c ad hs age last E port now f w e w' := by
  have b1 : Below w.heap.size w (w.alloc (.cells (frC f) 36)) := (Below.refl _ _).alloc (Nat.le_refl _) _
  have hF1 : Blk (w.alloc (.cells (frC f) 36)) w.heap.size 36 (frC f) := HasF.new w f
  have h1 := h.kept b1
  have HH := Lib.hid (fun w h => has_any (B := B) (b := b) (t := t) (c := c) (ad := ad) (hs := hs) (age := age) (last := last) (E := E) port w h)
  unfold frV
  have HRI := Lib.hid (right_frame f (w.alloc (.cells (frC f) 36)) (hf.below b1))
  rw [hr] at HRI
  have hb' := hb
  rw [hb] at HH
  obtain ⟨k, rfl, hk⟩ := hasB_of hb
  obtain ⟨g, cur, rfl, hg, hgb, hcs⟩ := h1.at hk
  have hgl := hgb.lt
  have q1 : (k : Int) < (hs.length : Int) := by omega
  have q3 : (0 : Int) ≤ (k : Int) := by omega
  have hlive : (inM (hs.map PsH.x) age last E (k : Int) f now) = liveM (hs.map PsH.x) age last E (k : Int) f now hs[k].x := inM_live hk hr
  have HXG : Hid ((hs.map PsH.x).getD ((k : Int)).toNat zPs = hs[k].x) := by show _ = _; simp [hk]
  generalize hs[k] = x at *
  have hxg : (hs.map PsH.x).getD ((k : Int)).toNat zPs = x.x := HXG.out
  have HVC := Lib.hid (fun w h hT => vid_any (B := B) (b := b) (t := t) (c := c) (ad := (some ⟨g, 0, none⟩)) (hs := hs) (age := age) (last := last) (E := E) (k : Int) f w h hT hf.few)
  have HV : Hid (∃ V, vidM (hs.map PsH.x) (k : Int) f.tl = V) := ⟨_, rfl⟩
  generalize hV : vidM (hs.map PsH.x) (k : Int) f.tl = V at *
  have e1 : (x.x.st == 1) = false := by
    rw [hxg] at hlv
    unfold deadB at hlv
    simp only [Bool.or_eq_false_iff] at hlv
    exact hlv.1
  have e2 : (V == 0) = false := by
    rw [hxg] at hlv
    unfold deadB at hlv
    simp only [Bool.or_eq_false_iff] at hlv
    exact hlv.2.1
  have e3 : decide (0 ≤ resv f.d) = false := by
    rw [hxg] at hlv
    unfold deadB at hlv
    simp only [Bool.or_eq_false_iff] at hlv
    exact hlv.2.2
  have hde : deadB x.x V f.d = false := by rw [hxg] at hlv; exact hlv
  have HRES : Hid (∀ W, Calls Try.prog 39 #[.agg (c6 f.d)] W fun e w' => e = .returned (.int .i64 (resv f.d)) ∧ Below W.heap.size W w') := fun W => reserved_any f.d hd W
  have HGR : Hid (∀ W, Calls Try.prog 40 #[.agg (c6 f.s)] W fun e w' => e = .returned (.bool (grpB f.s)) ∧ Below W.heap.size W w') := fun W => group6 f.s hsb W
  rw [hgr] at HGR
  clear hd hlv hxg
  rw [HXG.out] at hst3
  have hst : (x.x.st == 3) = false := beq_eq_false_iff_ne.2 hst3
  have HR : Hid (inM (hs.map PsH.x) age last E (k : Int) f now = ⟨0, last, E, []⟩) := by
    show _ = _
    rw [hlive]
    unfold liveM
    simp only [hV, hde, hgr, if_true, if_false, Bool.false_eq_true, ne_eq, not_true_eq_false, hst3]
    try rfl
  clear hlive hde
  go_enter Try.func17, Try.ntmps17
  go_upto_region 1 with (refine box_blk 36 (frC f) (by rfl) rfl rfl ?_)
  generalize w.alloc (.cells (frC f) 36) = w1 at *
  go_upto_region 3 with (go_at_call 36; refine (HH.out _ h1).mono ?_; rintro e w' ⟨rfl, rfl⟩)
  go_upto_region 5 with (first
    | (refine load_blk 36 (frC f) (by rfl) rfl rfl hF1 (by kernel_rfl) (by kernel_rfl) (by rfl) ?_)
    | (go_at_call 33; refine HRI.out.mono ?_; rintro e w3 ⟨rfl, k3⟩))
  have h3 := h1.kept k3
  have hF3 := hF1.kept k3
  have hcs3 := hcs.below k3 hgl
  have hgl3 : g < w3.heap.size := Nat.lt_of_lt_of_le hgl k3.size
  replace k3 := b1.trans (k3.mono b1.size)
  refine wp_region_noPanic ?_
  refine wp_region_held_drew (S := (fun w' => BrgAt w' B b t c (some ⟨g, 0, none⟩) hs age last E ∧ Blk w' w.heap.size 36 (frC f) ∧ CellsAt w' g (k * 4) (psC x))) (by kernel_rfl) ?_ (fun hHeld => ?_)
  · exact ⟨h3.kept (Below.refl _ _).drew, hF3, hcs3⟩
  refine wpAnyH_take (i := 0) (v := ?_) rfl (by kernel_rfl) (by kernel_rfl) (by kernel_rfl) (fun _ _ _ h => h) (Or.inl ⟨by rfl, ?_⟩) (by assumption) ?_
  rotate_left
  · (intro w hSw; (try dsimp only at hSw); go_simp; (try with_reducible rfl))
  (try simp only [Act.put, List.getElem_toArray, List.getElem_cons_zero, List.getElem_cons_succ, List.setIfInBounds_toArray, List.set_cons_zero, List.set_cons_succ])
  refine wpAnyH_take (i := 1) (v := ?_) rfl (by kernel_rfl) (by kernel_rfl) (by kernel_rfl) (fun _ _ _ h => h) (Or.inl ⟨by rfl, ?_⟩) (by assumption) ?_
  rotate_left
  · (intro w hSw; (try dsimp only at hSw); go_simp; (try with_reducible rfl))
  (try simp only [Act.put, List.getElem_toArray, List.getElem_cons_zero, List.getElem_cons_succ, List.setIfInBounds_toArray, List.set_cons_zero, List.set_cons_succ])
  refine wpAnyH_take (i := 2) (v := ?_) rfl (by kernel_rfl) (by kernel_rfl) (by kernel_rfl) (fun _ _ _ h => h) (Or.inl ⟨by rfl, ?_⟩) (by assumption) ?_
  rotate_left
  · (intro w hSw; (try dsimp only at hSw); go_simp; (try with_reducible rfl))
  (try simp only [Act.put, List.getElem_toArray, List.getElem_cons_zero, List.getElem_cons_succ, List.setIfInBounds_toArray, List.set_cons_zero, List.set_cons_succ])
  refine wpAnyH_take (i := 3) (v := .slice (some ⟨g, 0, none⟩) hs.length c) rfl (by kernel_rfl) (by kernel_rfl) (by kernel_rfl) (fun _ _ _ h => h) (Or.inl ⟨by rfl, fun w hSw => by have c := hSw.1.blk.cv 0 (.slice (some ⟨g, 0, none⟩) hs.length c) rfl; go_simp⟩) (by assumption) ?_
  (try simp only [Act.put, List.getElem_toArray, List.getElem_cons_zero, List.getElem_cons_succ, List.setIfInBounds_toArray, List.set_cons_zero, List.set_cons_succ])
  refine wpAnyH_take (i := 4) (v := ?_) rfl (by kernel_rfl) (by kernel_rfl) (by kernel_rfl) (fun _ _ _ h => h) (Or.inl ⟨by rfl, ?_⟩) (by assumption) ?_
  rotate_left
  · (intro w hSw; (try dsimp only at hSw); go_simp; (try with_reducible rfl))
  (try simp only [Act.put, List.getElem_toArray, List.getElem_cons_zero, List.getElem_cons_succ, List.setIfInBounds_toArray, List.set_cons_zero, List.set_cons_succ])
  refine wpAnyH_take (i := 5) (v := ?_) rfl (by kernel_rfl) (by kernel_rfl) (by kernel_rfl) (fun _ _ _ h => h) (Or.inl ⟨by rfl, ?_⟩) (by assumption) ?_
  rotate_left
  · (intro w hSw; (try dsimp only at hSw); go_simp; (try with_reducible rfl))
  (try simp only [Act.put, List.getElem_toArray, List.getElem_cons_zero, List.getElem_cons_succ, List.setIfInBounds_toArray, List.set_cons_zero, List.set_cons_succ])
  refine wpAnyH_take (i := 6) (v := ?_) rfl (by kernel_rfl) (by kernel_rfl) (by kernel_rfl) (fun _ _ _ h => h) (Or.inl ⟨by rfl, ?_⟩) (by assumption) ?_
  rotate_left
  · (intro w hSw; (try dsimp only at hSw); go_simp; (try with_reducible rfl))
  (try simp only [Act.put, List.getElem_toArray, List.getElem_cons_zero, List.getElem_cons_succ, List.setIfInBounds_toArray, List.set_cons_zero, List.set_cons_succ])
  refine wpAnyH_take (i := 7) (v := .int .i64 x.x.st) rfl (by kernel_rfl) (by kernel_rfl) (by kernel_rfl) (fun _ _ _ h => h) (Or.inl ⟨by rfl, fun w hSw => by have c := hSw.2.2 3 (.int .i64 x.x.st) rfl; go_simp⟩) (by assumption) ?_
  (try simp only [Act.put, List.getElem_toArray, List.getElem_cons_zero, List.getElem_cons_succ, List.setIfInBounds_toArray, List.set_cons_zero, List.set_cons_succ])
  refine wpAnyH_take (i := 8) (v := ?_) rfl (by kernel_rfl) (by kernel_rfl) (by kernel_rfl) (fun _ _ _ h => h) (Or.inl ⟨by rfl, ?_⟩) (by assumption) ?_
  rotate_left
  · (intro w hSw; (try dsimp only at hSw); go_simp; (try with_reducible rfl))
  (try simp only [Act.put, List.getElem_toArray, List.getElem_cons_zero, List.getElem_cons_succ, List.setIfInBounds_toArray, List.set_cons_zero, List.set_cons_succ])
  refine wpAnyH_take (i := 9) (v := ?_) rfl (by kernel_rfl) (by kernel_rfl) (by kernel_rfl) (fun _ _ _ h => h) (Or.inl ⟨by rfl, ?_⟩) (by assumption) ?_
  rotate_left
  · (intro w hSw; (try dsimp only at hSw); go_simp; (try with_reducible rfl))
  (try simp only [Act.put, List.getElem_toArray, List.getElem_cons_zero, List.getElem_cons_succ, List.setIfInBounds_toArray, List.set_cons_zero, List.set_cons_succ])
  refine wpAnyH_take (i := 10) (v := .agg (frC f)) rfl (by kernel_rfl) (by kernel_rfl) (by kernel_rfl) (fun _ _ _ h => h) (Or.inl ⟨by rfl, fun w hSw => exec_load_blk (k := 0) 36 (frC f) rfl rfl hSw.2.1 (by kernel_rfl) (by kernel_rfl) rfl⟩) (by assumption) ?_
  (try simp only [Act.put, List.getElem_toArray, List.getElem_cons_zero, List.getElem_cons_succ, List.setIfInBounds_toArray, List.set_cons_zero, List.set_cons_succ])
  refine wpAnyH_ready (rs := [11]) (by kernel_rfl) (by simp) ?_
  refine AllReadyH.cons rfl (fun K hK => ?_) AllReadyH.nil
  simp only [List.getElem_toArray, List.getElem_cons_zero, List.getElem_cons_succ]
  go_simp
  refine (HVC.out _ hHeld.1 (hf.tags.below k3.drew)).mono ?_
  rintro e w4 ⟨rfl, k4⟩
  have h4 := hHeld.1.kept k4
  have hF4 := hHeld.2.1.kept k4
  have hcs4 := hHeld.2.2.below k4 hgl3
  refine hK.out _ _ ?_ (fun hHeld => ?_)
  · exact ⟨h4, hF4, hcs4⟩
  clear hK K
  (try simp only [Act.put, List.getElem_toArray, List.getElem_cons_zero, List.getElem_cons_succ, List.setIfInBounds_toArray, List.set_cons_zero, List.set_cons_succ])
  refine wpAnyH_take (i := 12) (v := ?_) rfl (by kernel_rfl) (by kernel_rfl) (by kernel_rfl) (fun _ _ _ h => h) (Or.inl ⟨by rfl, ?_⟩) (by assumption) ?_
  rotate_left
  · (intro w hSw; (try dsimp only at hSw); go_simp; (try with_reducible rfl))
  (try simp only [Act.put, List.getElem_toArray, List.getElem_cons_zero, List.getElem_cons_succ, List.setIfInBounds_toArray, List.set_cons_zero, List.set_cons_succ])
  refine wpAnyH_take (i := 13) (v := ?_) rfl (by kernel_rfl) (by kernel_rfl) (by kernel_rfl) (fun _ _ _ h => h) (Or.inl ⟨by rfl, ?_⟩) (by assumption) ?_
  rotate_left
  · (intro w hSw; (try dsimp only at hSw); go_simp; (try with_reducible rfl))
  (try simp only [Act.put, List.getElem_toArray, List.getElem_cons_zero, List.getElem_cons_succ, List.setIfInBounds_toArray, List.set_cons_zero, List.set_cons_succ])
  refine wpAnyH_done (by kernel_rfl) ?_ _
  refine NoPanic.normal ?_
  go_upto_region 12 with (first
    | (refine load_blk (k := 0) 33 (c6 f.d) (by rfl) rfl rfl hF4 (by kernel_rfl) (by kernel_rfl) (by rfl) ?_)
    | (go_at_call 39; refine (HRES.out _).mono ?_; rintro e w9 ⟨rfl, k9⟩; have hF9 := hF4.kept k9)
    | (refine load_blk (k := 6) 33 (c6 f.s) (by rfl) rfl rfl hF9 (by kernel_rfl) (by kernel_rfl) (by rfl) ?_)
    | (go_at_call 40; refine (HGR.out _).mono ?_; rintro e w10 ⟨rfl, k10⟩))
  have k59 := k9.trans (k10.mono k9.size)
  have h5 := h4.kept k59
  have hF5 := hF4.kept k59
  have k5 := (k3.drew.trans (k4.mono k3.size)).trans (k59.mono (Nat.le_trans k3.size k4.size))
  clear k9 k10 k59 hF4 hF9 h4 k4 k3 hF3 h3 hcs4 hcs3 HRES HGR HVC HRI HH
  have h6sz := Nat.le_refl w10.heap.size
  have h6 := h5
  have hF6 := hF5
  have hx6 : Lx B LT w _ := Lx.of k5
  go_wp2
  go_ret2
  exact InPost.none HR.out rfl rfl h6 hx6

set_option maxHeartbeats 6400000 in
theorem in_grp_sent (h : BrgAt w B b t c ad hs age last E) (hf : FrIn w f) (hK : TagsK w B f.ta f.tl) (hd : ∀ i, f.d i < 256) (hsb : ∀ i, f.s i < 256) (hB : Zone.up B ≤ w.heap.size) (hb : hasB hs.length port = true) (hr : rightB f = true) (hlv : deadB ((hs.map PsH.x).getD port.toNat zPs) (vidM (hs.map PsH.x) port f.tl) f.d = false) (hgr : grpB f.s = true) (hst3 : ((hs.map PsH.x).getD port.toNat zPs).st = 3) :
    Calls Try.prog 17 #[.pointer (some ⟨b, 0, none⟩), .int .i64 port, frV f, .int .i64 now] w fun e w' => InPost B b t c ad hs age last E port now f w e w' := by
  have b1 : Below w.heap.size w (w.alloc (.cells (frC f) 36)) := (Below.refl _ _).alloc (Nat.le_refl _) _
  have hF1 : Blk (w.alloc (.cells (frC f) 36)) w.heap.size 36 (frC f) := HasF.new w f
  have h1 := h.kept b1
  have HH := Lib.hid (fun w h => has_any (B := B) (b := b) (t := t) (c := c) (ad := ad) (hs := hs) (age := age) (last := last) (E := E) port w h)
  unfold frV
  have HRI := Lib.hid (right_frame f (w.alloc (.cells (frC f) 36)) (hf.below b1))
  rw [hr] at HRI
  have hb' := hb
  rw [hb] at HH
  obtain ⟨k, rfl, hk⟩ := hasB_of hb
  obtain ⟨g, cur, rfl, hg, hgb, hcs⟩ := h1.at hk
  have hgl := hgb.lt
  have q1 : (k : Int) < (hs.length : Int) := by omega
  have q3 : (0 : Int) ≤ (k : Int) := by omega
  have hlive : (inM (hs.map PsH.x) age last E (k : Int) f now) = liveM (hs.map PsH.x) age last E (k : Int) f now hs[k].x := inM_live hk hr
  have HXG : Hid ((hs.map PsH.x).getD ((k : Int)).toNat zPs = hs[k].x) := by show _ = _; simp [hk]
  generalize hs[k] = x at *
  have hxg : (hs.map PsH.x).getD ((k : Int)).toNat zPs = x.x := HXG.out
  have HVC := Lib.hid (fun w h hT => vid_any (B := B) (b := b) (t := t) (c := c) (ad := (some ⟨g, 0, none⟩)) (hs := hs) (age := age) (last := last) (E := E) (k : Int) f w h hT hf.few)
  have HV : Hid (∃ V, vidM (hs.map PsH.x) (k : Int) f.tl = V) := ⟨_, rfl⟩
  generalize hV : vidM (hs.map PsH.x) (k : Int) f.tl = V at *
  have e1 : (x.x.st == 1) = false := by
    rw [hxg] at hlv
    unfold deadB at hlv
    simp only [Bool.or_eq_false_iff] at hlv
    exact hlv.1
  have e2 : (V == 0) = false := by
    rw [hxg] at hlv
    unfold deadB at hlv
    simp only [Bool.or_eq_false_iff] at hlv
    exact hlv.2.1
  have e3 : decide (0 ≤ resv f.d) = false := by
    rw [hxg] at hlv
    unfold deadB at hlv
    simp only [Bool.or_eq_false_iff] at hlv
    exact hlv.2.2
  have hde : deadB x.x V f.d = false := by rw [hxg] at hlv; exact hlv
  have HRES : Hid (∀ W, Calls Try.prog 39 #[.agg (c6 f.d)] W fun e w' => e = .returned (.int .i64 (resv f.d)) ∧ Below W.heap.size W w') := fun W => reserved_any f.d hd W
  have HGR : Hid (∀ W, Calls Try.prog 40 #[.agg (c6 f.s)] W fun e w' => e = .returned (.bool (grpB f.s)) ∧ Below W.heap.size W w') := fun W => group6 f.s hsb W
  rw [hgr] at HGR
  clear hd hlv hxg
  rw [HXG.out] at hst3
  have hst : (x.x.st == 3) = true := beq_iff_eq.2 hst3
  have HR : Hid (inM (hs.map PsH.x) age last E (k : Int) f now = ⟨0, last, E, outM (lookM age E V f.d now) (k : Int) V (hs.map PsH.x)⟩) := by
    show _ = _
    rw [hlive]
    unfold liveM
    simp only [hV, hde, hgr, if_true, if_false, Bool.false_eq_true, ne_eq, not_true_eq_false, hst3]
    try rfl
  clear hlive hde
  go_enter Try.func17, Try.ntmps17
  go_upto_region 1 with (refine box_blk 36 (frC f) (by rfl) rfl rfl ?_)
  generalize w.alloc (.cells (frC f) 36) = w1 at *
  go_upto_region 3 with (go_at_call 36; refine (HH.out _ h1).mono ?_; rintro e w' ⟨rfl, rfl⟩)
  go_upto_region 5 with (first
    | (refine load_blk 36 (frC f) (by rfl) rfl rfl hF1 (by kernel_rfl) (by kernel_rfl) (by rfl) ?_)
    | (go_at_call 33; refine HRI.out.mono ?_; rintro e w3 ⟨rfl, k3⟩))
  have h3 := h1.kept k3
  have hF3 := hF1.kept k3
  have hcs3 := hcs.below k3 hgl
  have hgl3 : g < w3.heap.size := Nat.lt_of_lt_of_le hgl k3.size
  replace k3 := b1.trans (k3.mono b1.size)
  refine wp_region_noPanic ?_
  refine wp_region_held_drew (S := (fun w' => BrgAt w' B b t c (some ⟨g, 0, none⟩) hs age last E ∧ Blk w' w.heap.size 36 (frC f) ∧ CellsAt w' g (k * 4) (psC x))) (by kernel_rfl) ?_ (fun hHeld => ?_)
  · exact ⟨h3.kept (Below.refl _ _).drew, hF3, hcs3⟩
  refine wpAnyH_take (i := 0) (v := ?_) rfl (by kernel_rfl) (by kernel_rfl) (by kernel_rfl) (fun _ _ _ h => h) (Or.inl ⟨by rfl, ?_⟩) (by assumption) ?_
  rotate_left
  · (intro w hSw; (try dsimp only at hSw); go_simp; (try with_reducible rfl))
  (try simp only [Act.put, List.getElem_toArray, List.getElem_cons_zero, List.getElem_cons_succ, List.setIfInBounds_toArray, List.set_cons_zero, List.set_cons_succ])
  refine wpAnyH_take (i := 1) (v := ?_) rfl (by kernel_rfl) (by kernel_rfl) (by kernel_rfl) (fun _ _ _ h => h) (Or.inl ⟨by rfl, ?_⟩) (by assumption) ?_
  rotate_left
  · (intro w hSw; (try dsimp only at hSw); go_simp; (try with_reducible rfl))
  (try simp only [Act.put, List.getElem_toArray, List.getElem_cons_zero, List.getElem_cons_succ, List.setIfInBounds_toArray, List.set_cons_zero, List.set_cons_succ])
  refine wpAnyH_take (i := 2) (v := ?_) rfl (by kernel_rfl) (by kernel_rfl) (by kernel_rfl) (fun _ _ _ h => h) (Or.inl ⟨by rfl, ?_⟩) (by assumption) ?_
  rotate_left
  · (intro w hSw; (try dsimp only at hSw); go_simp; (try with_reducible rfl))
  (try simp only [Act.put, List.getElem_toArray, List.getElem_cons_zero, List.getElem_cons_succ, List.setIfInBounds_toArray, List.set_cons_zero, List.set_cons_succ])
  refine wpAnyH_take (i := 3) (v := .slice (some ⟨g, 0, none⟩) hs.length c) rfl (by kernel_rfl) (by kernel_rfl) (by kernel_rfl) (fun _ _ _ h => h) (Or.inl ⟨by rfl, fun w hSw => by have c := hSw.1.blk.cv 0 (.slice (some ⟨g, 0, none⟩) hs.length c) rfl; go_simp⟩) (by assumption) ?_
  (try simp only [Act.put, List.getElem_toArray, List.getElem_cons_zero, List.getElem_cons_succ, List.setIfInBounds_toArray, List.set_cons_zero, List.set_cons_succ])
  refine wpAnyH_take (i := 4) (v := ?_) rfl (by kernel_rfl) (by kernel_rfl) (by kernel_rfl) (fun _ _ _ h => h) (Or.inl ⟨by rfl, ?_⟩) (by assumption) ?_
  rotate_left
  · (intro w hSw; (try dsimp only at hSw); go_simp; (try with_reducible rfl))
  (try simp only [Act.put, List.getElem_toArray, List.getElem_cons_zero, List.getElem_cons_succ, List.setIfInBounds_toArray, List.set_cons_zero, List.set_cons_succ])
  refine wpAnyH_take (i := 5) (v := ?_) rfl (by kernel_rfl) (by kernel_rfl) (by kernel_rfl) (fun _ _ _ h => h) (Or.inl ⟨by rfl, ?_⟩) (by assumption) ?_
  rotate_left
  · (intro w hSw; (try dsimp only at hSw); go_simp; (try with_reducible rfl))
  (try simp only [Act.put, List.getElem_toArray, List.getElem_cons_zero, List.getElem_cons_succ, List.setIfInBounds_toArray, List.set_cons_zero, List.set_cons_succ])
  refine wpAnyH_take (i := 6) (v := ?_) rfl (by kernel_rfl) (by kernel_rfl) (by kernel_rfl) (fun _ _ _ h => h) (Or.inl ⟨by rfl, ?_⟩) (by assumption) ?_
  rotate_left
  · (intro w hSw; (try dsimp only at hSw); go_simp; (try with_reducible rfl))
  (try simp only [Act.put, List.getElem_toArray, List.getElem_cons_zero, List.getElem_cons_succ, List.setIfInBounds_toArray, List.set_cons_zero, List.set_cons_succ])
  refine wpAnyH_take (i := 7) (v := .int .i64 x.x.st) rfl (by kernel_rfl) (by kernel_rfl) (by kernel_rfl) (fun _ _ _ h => h) (Or.inl ⟨by rfl, fun w hSw => by have c := hSw.2.2 3 (.int .i64 x.x.st) rfl; go_simp⟩) (by assumption) ?_
  (try simp only [Act.put, List.getElem_toArray, List.getElem_cons_zero, List.getElem_cons_succ, List.setIfInBounds_toArray, List.set_cons_zero, List.set_cons_succ])
  refine wpAnyH_take (i := 8) (v := ?_) rfl (by kernel_rfl) (by kernel_rfl) (by kernel_rfl) (fun _ _ _ h => h) (Or.inl ⟨by rfl, ?_⟩) (by assumption) ?_
  rotate_left
  · (intro w hSw; (try dsimp only at hSw); go_simp; (try with_reducible rfl))
  (try simp only [Act.put, List.getElem_toArray, List.getElem_cons_zero, List.getElem_cons_succ, List.setIfInBounds_toArray, List.set_cons_zero, List.set_cons_succ])
  refine wpAnyH_take (i := 9) (v := ?_) rfl (by kernel_rfl) (by kernel_rfl) (by kernel_rfl) (fun _ _ _ h => h) (Or.inl ⟨by rfl, ?_⟩) (by assumption) ?_
  rotate_left
  · (intro w hSw; (try dsimp only at hSw); go_simp; (try with_reducible rfl))
  (try simp only [Act.put, List.getElem_toArray, List.getElem_cons_zero, List.getElem_cons_succ, List.setIfInBounds_toArray, List.set_cons_zero, List.set_cons_succ])
  refine wpAnyH_take (i := 10) (v := .agg (frC f)) rfl (by kernel_rfl) (by kernel_rfl) (by kernel_rfl) (fun _ _ _ h => h) (Or.inl ⟨by rfl, fun w hSw => exec_load_blk (k := 0) 36 (frC f) rfl rfl hSw.2.1 (by kernel_rfl) (by kernel_rfl) rfl⟩) (by assumption) ?_
  (try simp only [Act.put, List.getElem_toArray, List.getElem_cons_zero, List.getElem_cons_succ, List.setIfInBounds_toArray, List.set_cons_zero, List.set_cons_succ])
  refine wpAnyH_ready (rs := [11]) (by kernel_rfl) (by simp) ?_
  refine AllReadyH.cons rfl (fun K hK => ?_) AllReadyH.nil
  simp only [List.getElem_toArray, List.getElem_cons_zero, List.getElem_cons_succ]
  go_simp
  refine (HVC.out _ hHeld.1 (hf.tags.below k3.drew)).mono ?_
  rintro e w4 ⟨rfl, k4⟩
  have h4 := hHeld.1.kept k4
  have hF4 := hHeld.2.1.kept k4
  have hcs4 := hHeld.2.2.below k4 hgl3
  refine hK.out _ _ ?_ (fun hHeld => ?_)
  · exact ⟨h4, hF4, hcs4⟩
  clear hK K
  (try simp only [Act.put, List.getElem_toArray, List.getElem_cons_zero, List.getElem_cons_succ, List.setIfInBounds_toArray, List.set_cons_zero, List.set_cons_succ])
  refine wpAnyH_take (i := 12) (v := ?_) rfl (by kernel_rfl) (by kernel_rfl) (by kernel_rfl) (fun _ _ _ h => h) (Or.inl ⟨by rfl, ?_⟩) (by assumption) ?_
  rotate_left
  · (intro w hSw; (try dsimp only at hSw); go_simp; (try with_reducible rfl))
  (try simp only [Act.put, List.getElem_toArray, List.getElem_cons_zero, List.getElem_cons_succ, List.setIfInBounds_toArray, List.set_cons_zero, List.set_cons_succ])
  refine wpAnyH_take (i := 13) (v := ?_) rfl (by kernel_rfl) (by kernel_rfl) (by kernel_rfl) (fun _ _ _ h => h) (Or.inl ⟨by rfl, ?_⟩) (by assumption) ?_
  rotate_left
  · (intro w hSw; (try dsimp only at hSw); go_simp; (try with_reducible rfl))
  (try simp only [Act.put, List.getElem_toArray, List.getElem_cons_zero, List.getElem_cons_succ, List.setIfInBounds_toArray, List.set_cons_zero, List.set_cons_succ])
  refine wpAnyH_done (by kernel_rfl) ?_ _
  refine NoPanic.normal ?_
  go_upto_region 12 with (first
    | (refine load_blk (k := 0) 33 (c6 f.d) (by rfl) rfl rfl hF4 (by kernel_rfl) (by kernel_rfl) (by rfl) ?_)
    | (go_at_call 39; refine (HRES.out _).mono ?_; rintro e w9 ⟨rfl, k9⟩; have hF9 := hF4.kept k9)
    | (refine load_blk (k := 6) 33 (c6 f.s) (by rfl) rfl rfl hF9 (by kernel_rfl) (by kernel_rfl) (by rfl) ?_)
    | (go_at_call 40; refine (HGR.out _).mono ?_; rintro e w10 ⟨rfl, k10⟩))
  have k59 := k9.trans (k10.mono k9.size)
  have h5 := h4.kept k59
  have hF5 := hF4.kept k59
  have k5 := (k3.drew.trans (k4.mono k3.size)).trans (k59.mono (Nat.le_trans k3.size k4.size))
  clear k9 k10 k59 hF4 hF9 h4 k4 k3 hF3 h3 hcs4 hcs3 HRES HGR HVC HRI HH
  have h6sz := Nat.le_refl w10.heap.size
  have h6 := h5
  have hF6 := hF5
  have hx6 : Lx B LT w _ := Lx.of k5
  have HSZ := h6sz
  have hT6 := (hK.lx hx6).inL
  have HOUT := Lib.hid (out_any (B := B) (b := b) (t := t) (c := c) (ad := (some ⟨g, 0, none⟩)) (hs := hs) (k : Int) V now f _ h6 hT6 hf.few (Nat.le_trans hB hx6.size))
  go_wp2_with (first
    | (refine load_blk 36 (frC f) (by rfl) rfl rfl hF6 (by kernel_rfl) (by kernel_rfl) (by rfl) ?_)
    | (go_at_call 42; refine HOUT.out.mono ?_; rintro e w7 ⟨⟨v, ss, rfl, ho, hss⟩, k7⟩; obtain ⟨a7, c7, rfl, -⟩ := ho.inL))
  go_ret2
  refine InPost.some HR.out hV ho (Nat.le_trans k5.size HSZ) hss (h6.kept k7) (hx6.trans (Lx.of k7))

set_option maxHeartbeats 6400000 in
theorem in_lrn_quiet (h : BrgAt w B b t c ad hs age last E) (hf : FrIn w f) (hK : TagsK w B f.ta f.tl) (hd : ∀ i, f.d i < 256) (hsb : ∀ i, f.s i < 256) (hB : Zone.up B ≤ w.heap.size) (hb : hasB hs.length port = true) (hr : rightB f = true) (hlv : deadB ((hs.map PsH.x).getD port.toNat zPs) (vidM (hs.map PsH.x) port f.tl) f.d = false) (hgr : grpB f.s = false) (hle : learnErr last (vidM (hs.map PsH.x) port f.tl) f.s port now = 0) (hst3 : ((hs.map PsH.x).getD port.toNat zPs).st ≠ 3) :
    Calls Try.prog 17 #[.pointer (some ⟨b, 0, none⟩), .int .i64 port, frV f, .int .i64 now] w fun e w' => InPost B b t c ad hs age last E port now f w e w' := by
  have b1 : Below w.heap.size w (w.alloc (.cells (frC f) 36)) := (Below.refl _ _).alloc (Nat.le_refl _) _
  have hF1 : Blk (w.alloc (.cells (frC f) 36)) w.heap.size 36 (frC f) := HasF.new w f
  have h1 := h.kept b1
  have HH := Lib.hid (fun w h => has_any (B := B) (b := b) (t := t) (c := c) (ad := ad) (hs := hs) (age := age) (last := last) (E := E) port w h)
  unfold frV
  have HRI := Lib.hid (right_frame f (w.alloc (.cells (frC f) 36)) (hf.below b1))
  rw [hr] at HRI
  have hb' := hb
  rw [hb] at HH
  obtain ⟨k, rfl, hk⟩ := hasB_of hb
  obtain ⟨g, cur, rfl, hg, hgb, hcs⟩ := h1.at hk
  have hgl := hgb.lt
  have q1 : (k : Int) < (hs.length : Int) := by omega
  have q3 : (0 : Int) ≤ (k : Int) := by omega
  have hlive : (inM (hs.map PsH.x) age last E (k : Int) f now) = liveM (hs.map PsH.x) age last E (k : Int) f now hs[k].x := inM_live hk hr
  have HXG : Hid ((hs.map PsH.x).getD ((k : Int)).toNat zPs = hs[k].x) := by show _ = _; simp [hk]
  generalize hs[k] = x at *
  have hxg : (hs.map PsH.x).getD ((k : Int)).toNat zPs = x.x := HXG.out
  have HVC := Lib.hid (fun w h hT => vid_any (B := B) (b := b) (t := t) (c := c) (ad := (some ⟨g, 0, none⟩)) (hs := hs) (age := age) (last := last) (E := E) (k : Int) f w h hT hf.few)
  have HV : Hid (∃ V, vidM (hs.map PsH.x) (k : Int) f.tl = V) := ⟨_, rfl⟩
  generalize hV : vidM (hs.map PsH.x) (k : Int) f.tl = V at *
  have e1 : (x.x.st == 1) = false := by
    rw [hxg] at hlv
    unfold deadB at hlv
    simp only [Bool.or_eq_false_iff] at hlv
    exact hlv.1
  have e2 : (V == 0) = false := by
    rw [hxg] at hlv
    unfold deadB at hlv
    simp only [Bool.or_eq_false_iff] at hlv
    exact hlv.2.1
  have e3 : decide (0 ≤ resv f.d) = false := by
    rw [hxg] at hlv
    unfold deadB at hlv
    simp only [Bool.or_eq_false_iff] at hlv
    exact hlv.2.2
  have hde : deadB x.x V f.d = false := by rw [hxg] at hlv; exact hlv
  have HRES : Hid (∀ W, Calls Try.prog 39 #[.agg (c6 f.d)] W fun e w' => e = .returned (.int .i64 (resv f.d)) ∧ Below W.heap.size W w') := fun W => reserved_any f.d hd W
  have HGR : Hid (∀ W, Calls Try.prog 40 #[.agg (c6 f.s)] W fun e w' => e = .returned (.bool (grpB f.s)) ∧ Below W.heap.size W w') := fun W => group6 f.s hsb W
  rw [hgr] at HGR
  clear hd hlv hxg
  rw [HXG.out] at hst3
  have hst : (x.x.st == 3) = false := beq_eq_false_iff_ne.2 hst3
  have HERR := Lib.hid hle
  have HR : Hid (inM (hs.map PsH.x) age last E (k : Int) f now = ⟨0, now, learnM age E V f.s (k : Int) now, []⟩) := by
    show _ = _
    rw [hlive]
    unfold liveM
    simp only [hV, hde, hgr, if_true, if_false, Bool.false_eq_true, ne_eq, not_true_eq_false, hst3, hle]
    try rfl
  clear hlive hde
  go_enter Try.func17, Try.ntmps17
  go_upto_region 1 with (refine box_blk 36 (frC f) (by rfl) rfl rfl ?_)
  generalize w.alloc (.cells (frC f) 36) = w1 at *
  go_upto_region 3 with (go_at_call 36; refine (HH.out _ h1).mono ?_; rintro e w' ⟨rfl, rfl⟩)
  go_upto_region 5 with (first
    | (refine load_blk 36 (frC f) (by rfl) rfl rfl hF1 (by kernel_rfl) (by kernel_rfl) (by rfl) ?_)
    | (go_at_call 33; refine HRI.out.mono ?_; rintro e w3 ⟨rfl, k3⟩))
  have h3 := h1.kept k3
  have hF3 := hF1.kept k3
  have hcs3 := hcs.below k3 hgl
  have hgl3 : g < w3.heap.size := Nat.lt_of_lt_of_le hgl k3.size
  replace k3 := b1.trans (k3.mono b1.size)
  refine wp_region_noPanic ?_
  refine wp_region_held_drew (S := (fun w' => BrgAt w' B b t c (some ⟨g, 0, none⟩) hs age last E ∧ Blk w' w.heap.size 36 (frC f) ∧ CellsAt w' g (k * 4) (psC x))) (by kernel_rfl) ?_ (fun hHeld => ?_)
  · exact ⟨h3.kept (Below.refl _ _).drew, hF3, hcs3⟩
  refine wpAnyH_take (i := 0) (v := ?_) rfl (by kernel_rfl) (by kernel_rfl) (by kernel_rfl) (fun _ _ _ h => h) (Or.inl ⟨by rfl, ?_⟩) (by assumption) ?_
  rotate_left
  · (intro w hSw; (try dsimp only at hSw); go_simp; (try with_reducible rfl))
  (try simp only [Act.put, List.getElem_toArray, List.getElem_cons_zero, List.getElem_cons_succ, List.setIfInBounds_toArray, List.set_cons_zero, List.set_cons_succ])
  refine wpAnyH_take (i := 1) (v := ?_) rfl (by kernel_rfl) (by kernel_rfl) (by kernel_rfl) (fun _ _ _ h => h) (Or.inl ⟨by rfl, ?_⟩) (by assumption) ?_
  rotate_left
  · (intro w hSw; (try dsimp only at hSw); go_simp; (try with_reducible rfl))
  (try simp only [Act.put, List.getElem_toArray, List.getElem_cons_zero, List.getElem_cons_succ, List.setIfInBounds_toArray, List.set_cons_zero, List.set_cons_succ])
  refine wpAnyH_take (i := 2) (v := ?_) rfl (by kernel_rfl) (by kernel_rfl) (by kernel_rfl) (fun _ _ _ h => h) (Or.inl ⟨by rfl, ?_⟩) (by assumption) ?_
  rotate_left
  · (intro w hSw; (try dsimp only at hSw); go_simp; (try with_reducible rfl))
  (try simp only [Act.put, List.getElem_toArray, List.getElem_cons_zero, List.getElem_cons_succ, List.setIfInBounds_toArray, List.set_cons_zero, List.set_cons_succ])
  refine wpAnyH_take (i := 3) (v := .slice (some ⟨g, 0, none⟩) hs.length c) rfl (by kernel_rfl) (by kernel_rfl) (by kernel_rfl) (fun _ _ _ h => h) (Or.inl ⟨by rfl, fun w hSw => by have c := hSw.1.blk.cv 0 (.slice (some ⟨g, 0, none⟩) hs.length c) rfl; go_simp⟩) (by assumption) ?_
  (try simp only [Act.put, List.getElem_toArray, List.getElem_cons_zero, List.getElem_cons_succ, List.setIfInBounds_toArray, List.set_cons_zero, List.set_cons_succ])
  refine wpAnyH_take (i := 4) (v := ?_) rfl (by kernel_rfl) (by kernel_rfl) (by kernel_rfl) (fun _ _ _ h => h) (Or.inl ⟨by rfl, ?_⟩) (by assumption) ?_
  rotate_left
  · (intro w hSw; (try dsimp only at hSw); go_simp; (try with_reducible rfl))
  (try simp only [Act.put, List.getElem_toArray, List.getElem_cons_zero, List.getElem_cons_succ, List.setIfInBounds_toArray, List.set_cons_zero, List.set_cons_succ])
  refine wpAnyH_take (i := 5) (v := ?_) rfl (by kernel_rfl) (by kernel_rfl) (by kernel_rfl) (fun _ _ _ h => h) (Or.inl ⟨by rfl, ?_⟩) (by assumption) ?_
  rotate_left
  · (intro w hSw; (try dsimp only at hSw); go_simp; (try with_reducible rfl))
  (try simp only [Act.put, List.getElem_toArray, List.getElem_cons_zero, List.getElem_cons_succ, List.setIfInBounds_toArray, List.set_cons_zero, List.set_cons_succ])
  refine wpAnyH_take (i := 6) (v := ?_) rfl (by kernel_rfl) (by kernel_rfl) (by kernel_rfl) (fun _ _ _ h => h) (Or.inl ⟨by rfl, ?_⟩) (by assumption) ?_
  rotate_left
  · (intro w hSw; (try dsimp only at hSw); go_simp; (try with_reducible rfl))
  (try simp only [Act.put, List.getElem_toArray, List.getElem_cons_zero, List.getElem_cons_succ, List.setIfInBounds_toArray, List.set_cons_zero, List.set_cons_succ])
  refine wpAnyH_take (i := 7) (v := .int .i64 x.x.st) rfl (by kernel_rfl) (by kernel_rfl) (by kernel_rfl) (fun _ _ _ h => h) (Or.inl ⟨by rfl, fun w hSw => by have c := hSw.2.2 3 (.int .i64 x.x.st) rfl; go_simp⟩) (by assumption) ?_
  (try simp only [Act.put, List.getElem_toArray, List.getElem_cons_zero, List.getElem_cons_succ, List.setIfInBounds_toArray, List.set_cons_zero, List.set_cons_succ])
  refine wpAnyH_take (i := 8) (v := ?_) rfl (by kernel_rfl) (by kernel_rfl) (by kernel_rfl) (fun _ _ _ h => h) (Or.inl ⟨by rfl, ?_⟩) (by assumption) ?_
  rotate_left
  · (intro w hSw; (try dsimp only at hSw); go_simp; (try with_reducible rfl))
  (try simp only [Act.put, List.getElem_toArray, List.getElem_cons_zero, List.getElem_cons_succ, List.setIfInBounds_toArray, List.set_cons_zero, List.set_cons_succ])
  refine wpAnyH_take (i := 9) (v := ?_) rfl (by kernel_rfl) (by kernel_rfl) (by kernel_rfl) (fun _ _ _ h => h) (Or.inl ⟨by rfl, ?_⟩) (by assumption) ?_
  rotate_left
  · (intro w hSw; (try dsimp only at hSw); go_simp; (try with_reducible rfl))
  (try simp only [Act.put, List.getElem_toArray, List.getElem_cons_zero, List.getElem_cons_succ, List.setIfInBounds_toArray, List.set_cons_zero, List.set_cons_succ])
  refine wpAnyH_take (i := 10) (v := .agg (frC f)) rfl (by kernel_rfl) (by kernel_rfl) (by kernel_rfl) (fun _ _ _ h => h) (Or.inl ⟨by rfl, fun w hSw => exec_load_blk (k := 0) 36 (frC f) rfl rfl hSw.2.1 (by kernel_rfl) (by kernel_rfl) rfl⟩) (by assumption) ?_
  (try simp only [Act.put, List.getElem_toArray, List.getElem_cons_zero, List.getElem_cons_succ, List.setIfInBounds_toArray, List.set_cons_zero, List.set_cons_succ])
  refine wpAnyH_ready (rs := [11]) (by kernel_rfl) (by simp) ?_
  refine AllReadyH.cons rfl (fun K hK => ?_) AllReadyH.nil
  simp only [List.getElem_toArray, List.getElem_cons_zero, List.getElem_cons_succ]
  go_simp
  refine (HVC.out _ hHeld.1 (hf.tags.below k3.drew)).mono ?_
  rintro e w4 ⟨rfl, k4⟩
  have h4 := hHeld.1.kept k4
  have hF4 := hHeld.2.1.kept k4
  have hcs4 := hHeld.2.2.below k4 hgl3
  refine hK.out _ _ ?_ (fun hHeld => ?_)
  · exact ⟨h4, hF4, hcs4⟩
  clear hK K
  (try simp only [Act.put, List.getElem_toArray, List.getElem_cons_zero, List.getElem_cons_succ, List.setIfInBounds_toArray, List.set_cons_zero, List.set_cons_succ])
  refine wpAnyH_take (i := 12) (v := ?_) rfl (by kernel_rfl) (by kernel_rfl) (by kernel_rfl) (fun _ _ _ h => h) (Or.inl ⟨by rfl, ?_⟩) (by assumption) ?_
  rotate_left
  · (intro w hSw; (try dsimp only at hSw); go_simp; (try with_reducible rfl))
  (try simp only [Act.put, List.getElem_toArray, List.getElem_cons_zero, List.getElem_cons_succ, List.setIfInBounds_toArray, List.set_cons_zero, List.set_cons_succ])
  refine wpAnyH_take (i := 13) (v := ?_) rfl (by kernel_rfl) (by kernel_rfl) (by kernel_rfl) (fun _ _ _ h => h) (Or.inl ⟨by rfl, ?_⟩) (by assumption) ?_
  rotate_left
  · (intro w hSw; (try dsimp only at hSw); go_simp; (try with_reducible rfl))
  (try simp only [Act.put, List.getElem_toArray, List.getElem_cons_zero, List.getElem_cons_succ, List.setIfInBounds_toArray, List.set_cons_zero, List.set_cons_succ])
  refine wpAnyH_done (by kernel_rfl) ?_ _
  refine NoPanic.normal ?_
  go_upto_region 9 with (first
    | (refine load_blk (k := 0) 33 (c6 f.d) (by rfl) rfl rfl hF4 (by kernel_rfl) (by kernel_rfl) (by rfl) ?_)
    | (go_at_call 39; refine (HRES.out _).mono ?_; rintro e w9 ⟨rfl, k9⟩; have hF9 := hF4.kept k9)
    | (refine load_blk (k := 6) 33 (c6 f.s) (by rfl) rfl rfl hF9 (by kernel_rfl) (by kernel_rfl) (by rfl) ?_)
    | (go_at_call 40; refine (HGR.out _).mono ?_; rintro e w10 ⟨rfl, k10⟩))
  have k59 := k9.trans (k10.mono k9.size)
  have h5 := h4.kept k59
  have hF5 := hF4.kept k59
  have k5 := (k3.drew.trans (k4.mono k3.size)).trans (k59.mono (Nat.le_trans k3.size k4.size))
  clear k9 k10 k59 hF4 hF9 h4 k4 k3 hF3 h3 hcs4 hcs3 HRES HGR HVC HRI HH
  refine wp_region_noPanic ?_
  refine wp_region_held_drew (S := (fun w' => Blk w' b 74 #[.slice (some ⟨g, 0, none⟩) hs.length c, .pointer (some ⟨t, 0, none⟩)] ∧ Blk w' w.heap.size 36 (frC f))) (by kernel_rfl) ?_ (fun hHeld => ?_)
  · exact ⟨h5.blk, hF5⟩
  refine wpAnyH_take (i := 0) (v := ?_) rfl (by kernel_rfl) (by kernel_rfl) (by kernel_rfl) (fun _ _ _ h => h) (Or.inl ⟨by rfl, ?_⟩) (by assumption) ?_
  rotate_left
  · (intro w hSw; (try dsimp only at hSw); go_simp; (try with_reducible rfl))
  (try simp only [Act.put, List.getElem_toArray, List.getElem_cons_zero, List.getElem_cons_succ, List.setIfInBounds_toArray, List.set_cons_zero, List.set_cons_succ])
  refine wpAnyH_take (i := 1) (v := ?_) rfl (by kernel_rfl) (by kernel_rfl) (by kernel_rfl) (fun _ _ _ h => h) (Or.inl ⟨by rfl, ?_⟩) (by assumption) ?_
  rotate_left
  · (intro w hSw; (try dsimp only at hSw); go_simp; (try with_reducible rfl))
  (try simp only [Act.put, List.getElem_toArray, List.getElem_cons_zero, List.getElem_cons_succ, List.setIfInBounds_toArray, List.set_cons_zero, List.set_cons_succ])
  refine wpAnyH_take (i := 2) (v := ?_) rfl (by kernel_rfl) (by kernel_rfl) (by kernel_rfl) (fun _ _ _ h => h) (Or.inl ⟨by rfl, ?_⟩) (by assumption) ?_
  rotate_left
  · (intro w hSw; (try dsimp only at hSw); go_simp; (try with_reducible rfl))
  (try simp only [Act.put, List.getElem_toArray, List.getElem_cons_zero, List.getElem_cons_succ, List.setIfInBounds_toArray, List.set_cons_zero, List.set_cons_succ])
  refine wpAnyH_take (i := 3) (v := .pointer (some ⟨t, 0, none⟩)) rfl (by kernel_rfl) (by kernel_rfl) (by kernel_rfl) (fun _ _ _ h => h) (Or.inl ⟨by rfl, fun w hSw => by have c := hSw.1.cv 1 (.pointer (some ⟨t, 0, none⟩)) rfl; go_simp⟩) (by assumption) ?_
  (try simp only [Act.put, List.getElem_toArray, List.getElem_cons_zero, List.getElem_cons_succ, List.setIfInBounds_toArray, List.set_cons_zero, List.set_cons_succ])
  refine wpAnyH_take (i := 4) (v := ?_) rfl (by kernel_rfl) (by kernel_rfl) (by kernel_rfl) (fun _ _ _ h => h) (Or.inl ⟨by rfl, ?_⟩) (by assumption) ?_
  rotate_left
  · (intro w hSw; (try dsimp only at hSw); go_simp; (try with_reducible rfl))
  (try simp only [Act.put, List.getElem_toArray, List.getElem_cons_zero, List.getElem_cons_succ, List.setIfInBounds_toArray, List.set_cons_zero, List.set_cons_succ])
  refine wpAnyH_take (i := 5) (v := ?_) rfl (by kernel_rfl) (by kernel_rfl) (by kernel_rfl) (fun _ _ _ h => h) (Or.inl ⟨by rfl, ?_⟩) (by assumption) ?_
  rotate_left
  · (intro w hSw; (try dsimp only at hSw); go_simp; (try with_reducible rfl))
  (try simp only [Act.put, List.getElem_toArray, List.getElem_cons_zero, List.getElem_cons_succ, List.setIfInBounds_toArray, List.set_cons_zero, List.set_cons_succ])
  refine wpAnyH_take (i := 6) (v := .agg (c6 f.s)) rfl (by kernel_rfl) (by kernel_rfl) (by kernel_rfl) (fun _ _ _ h => h) (Or.inl ⟨by rfl, fun w hSw => exec_load_blk (k := 6) 33 (c6 f.s) rfl rfl hSw.2 (by kernel_rfl) (by kernel_rfl) rfl⟩) (by assumption) ?_
  (try simp only [Act.put, List.getElem_toArray, List.getElem_cons_zero, List.getElem_cons_succ, List.setIfInBounds_toArray, List.set_cons_zero, List.set_cons_succ])
  refine wpAnyH_take (i := 7) (v := ?_) rfl (by kernel_rfl) (by kernel_rfl) (by kernel_rfl) (fun _ _ _ h => h) (Or.inl ⟨by rfl, ?_⟩) (by assumption) ?_
  rotate_left
  · (intro w hSw; (try dsimp only at hSw); go_simp; (try with_reducible rfl))
  (try simp only [Act.put, List.getElem_toArray, List.getElem_cons_zero, List.getElem_cons_succ, List.setIfInBounds_toArray, List.set_cons_zero, List.set_cons_succ])
  refine wpAnyH_take (i := 8) (v := ?_) rfl (by kernel_rfl) (by kernel_rfl) (by kernel_rfl) (fun _ _ _ h => h) (Or.inl ⟨by rfl, ?_⟩) (by assumption) ?_
  rotate_left
  · (intro w hSw; (try dsimp only at hSw); go_simp; (try with_reducible rfl))
  (try simp only [Act.put, List.getElem_toArray, List.getElem_cons_zero, List.getElem_cons_succ, List.setIfInBounds_toArray, List.set_cons_zero, List.set_cons_succ])
  refine wpAnyH_ready (rs := [9]) (by kernel_rfl) (by simp) ?_
  refine AllReadyH.cons rfl (fun K hK => ?_) AllReadyH.nil
  simp only [List.getElem_toArray, List.getElem_cons_zero, List.getElem_cons_succ]
  go_simp
  refine (learn_any B t age last E V f.s (k : Int) now _ (h5.tab.kept (Below.refl _ _).drew) hsb (Nat.le_trans hB (k5.drew).size)).mono ?_
  rintro e w6 ⟨rfl, h61, h62, hx6⟩
  rw [HERR.out, show errV 0 = .nilIface from rfl]
  have hb6 := hx6.blk hHeld.1 (by decide)
  have hF6 := hx6.blk hHeld.2 (by decide)
  refine hK.out _ _ ?_ (fun hHeld => ?_)
  · exact ⟨hb6, hF6⟩
  clear hK K
  (try simp only [Act.put, List.getElem_toArray, List.getElem_cons_zero, List.getElem_cons_succ, List.setIfInBounds_toArray, List.set_cons_zero, List.set_cons_succ])
  refine wpAnyH_take (i := 10) (v := ?_) rfl (by kernel_rfl) (by kernel_rfl) (by kernel_rfl) (fun _ _ _ h => h) (Or.inl ⟨by rfl, ?_⟩) (by assumption) ?_
  rotate_left
  · (intro w hSw; (try dsimp only at hSw); go_simp; (try with_reducible rfl))
  (try simp only [Act.put, List.getElem_toArray, List.getElem_cons_zero, List.getElem_cons_succ, List.setIfInBounds_toArray, List.set_cons_zero, List.set_cons_succ])
  refine wpAnyH_done (by kernel_rfl) ?_ _
  refine NoPanic.normal ?_
  have h6sz := hx6.size
  have h6 := (h5.kept (Below.refl _ _).drew).tabbed hx6 (h61 HERR.out)
  replace hx6 : Lx B LT w _ := (Lx.of k5.drew).trans hx6
  go_wp2
  go_ret2
  exact InPost.none HR.out rfl rfl h6 hx6

set_option maxHeartbeats 6400000 in
theorem in_lrn_sent (h : BrgAt w B b t c ad hs age last E) (hf : FrIn w f) (hK : TagsK w B f.ta f.tl) (hd : ∀ i, f.d i < 256) (hsb : ∀ i, f.s i < 256) (hB : Zone.up B ≤ w.heap.size) (hb : hasB hs.length port = true) (hr : rightB f = true) (hlv : deadB ((hs.map PsH.x).getD port.toNat zPs) (vidM (hs.map PsH.x) port f.tl) f.d = false) (hgr : grpB f.s = false) (hle : learnErr last (vidM (hs.map PsH.x) port f.tl) f.s port now = 0) (hst3 : ((hs.map PsH.x).getD port.toNat zPs).st = 3) :
    Calls Try.prog 17 #[.pointer (some ⟨b, 0, none⟩), .int .i64 port, frV f, .int .i64 now] w fun e w' => InPost B b t c ad hs age last E port now f w e w' := by
  have b1 : Below w.heap.size w (w.alloc (.cells (frC f) 36)) := (Below.refl _ _).alloc (Nat.le_refl _) _
  have hF1 : Blk (w.alloc (.cells (frC f) 36)) w.heap.size 36 (frC f) := HasF.new w f
  have h1 := h.kept b1
  have HH := Lib.hid (fun w h => has_any (B := B) (b := b) (t := t) (c := c) (ad := ad) (hs := hs) (age := age) (last := last) (E := E) port w h)
  unfold frV
  have HRI := Lib.hid (right_frame f (w.alloc (.cells (frC f) 36)) (hf.below b1))
  rw [hr] at HRI
  have hb' := hb
  rw [hb] at HH
  obtain ⟨k, rfl, hk⟩ := hasB_of hb
  obtain ⟨g, cur, rfl, hg, hgb, hcs⟩ := h1.at hk
  have hgl := hgb.lt
  have q1 : (k : Int) < (hs.length : Int) := by omega
  have q3 : (0 : Int) ≤ (k : Int) := by omega
  have hlive : (inM (hs.map PsH.x) age last E (k : Int) f now) = liveM (hs.map PsH.x) age last E (k : Int) f now hs[k].x := inM_live hk hr
  have HXG : Hid ((hs.map PsH.x).getD ((k : Int)).toNat zPs = hs[k].x) := by show _ = _; simp [hk]
  generalize hs[k] = x at *
  have hxg : (hs.map PsH.x).getD ((k : Int)).toNat zPs = x.x := HXG.out
  have HVC := Lib.hid (fun w h hT => vid_any (B := B) (b := b) (t := t) (c := c) (ad := (some ⟨g, 0, none⟩)) (hs := hs) (age := age) (last := last) (E := E) (k : Int) f w h hT hf.few)
  have HV : Hid (∃ V, vidM (hs.map PsH.x) (k : Int) f.tl = V) := ⟨_, rfl⟩
  generalize hV : vidM (hs.map PsH.x) (k : Int) f.tl = V at *
  have e1 : (x.x.st == 1) = false := by
    rw [hxg] at hlv
    unfold deadB at hlv
    simp only [Bool.or_eq_false_iff] at hlv
    exact hlv.1
  have e2 : (V == 0) = false := by
    rw [hxg] at hlv
    unfold deadB at hlv
    simp only [Bool.or_eq_false_iff] at hlv
    exact hlv.2.1
  have e3 : decide (0 ≤ resv f.d) = false := by
    rw [hxg] at hlv
    unfold deadB at hlv
    simp only [Bool.or_eq_false_iff] at hlv
    exact hlv.2.2
  have hde : deadB x.x V f.d = false := by rw [hxg] at hlv; exact hlv
  have HRES : Hid (∀ W, Calls Try.prog 39 #[.agg (c6 f.d)] W fun e w' => e = .returned (.int .i64 (resv f.d)) ∧ Below W.heap.size W w') := fun W => reserved_any f.d hd W
  have HGR : Hid (∀ W, Calls Try.prog 40 #[.agg (c6 f.s)] W fun e w' => e = .returned (.bool (grpB f.s)) ∧ Below W.heap.size W w') := fun W => group6 f.s hsb W
  rw [hgr] at HGR
  clear hd hlv hxg
  rw [HXG.out] at hst3
  have hst : (x.x.st == 3) = true := beq_iff_eq.2 hst3
  have HERR := Lib.hid hle
  have HR : Hid (inM (hs.map PsH.x) age last E (k : Int) f now = ⟨0, now, learnM age E V f.s (k : Int) now, outM (lookM age (learnM age E V f.s (k : Int) now) V f.d now) (k : Int) V (hs.map PsH.x)⟩) := by
    show _ = _
    rw [hlive]
    unfold liveM
    simp only [hV, hde, hgr, if_true, if_false, Bool.false_eq_true, ne_eq, not_true_eq_false, hst3, hle]
    try rfl
  clear hlive hde
  go_enter Try.func17, Try.ntmps17
  go_upto_region 1 with (refine box_blk 36 (frC f) (by rfl) rfl rfl ?_)
  generalize w.alloc (.cells (frC f) 36) = w1 at *
  go_upto_region 3 with (go_at_call 36; refine (HH.out _ h1).mono ?_; rintro e w' ⟨rfl, rfl⟩)
  go_upto_region 5 with (first
    | (refine load_blk 36 (frC f) (by rfl) rfl rfl hF1 (by kernel_rfl) (by kernel_rfl) (by rfl) ?_)
    | (go_at_call 33; refine HRI.out.mono ?_; rintro e w3 ⟨rfl, k3⟩))
  have h3 := h1.kept k3
  have hF3 := hF1.kept k3
  have hcs3 := hcs.below k3 hgl
  have hgl3 : g < w3.heap.size := Nat.lt_of_lt_of_le hgl k3.size
  replace k3 := b1.trans (k3.mono b1.size)
  refine wp_region_noPanic ?_
  refine wp_region_held_drew (S := (fun w' => BrgAt w' B b t c (some ⟨g, 0, none⟩) hs age last E ∧ Blk w' w.heap.size 36 (frC f) ∧ CellsAt w' g (k * 4) (psC x))) (by kernel_rfl) ?_ (fun hHeld => ?_)
  · exact ⟨h3.kept (Below.refl _ _).drew, hF3, hcs3⟩
  refine wpAnyH_take (i := 0) (v := ?_) rfl (by kernel_rfl) (by kernel_rfl) (by kernel_rfl) (fun _ _ _ h => h) (Or.inl ⟨by rfl, ?_⟩) (by assumption) ?_
  rotate_left
  · (intro w hSw; (try dsimp only at hSw); go_simp; (try with_reducible rfl))
  (try simp only [Act.put, List.getElem_toArray, List.getElem_cons_zero, List.getElem_cons_succ, List.setIfInBounds_toArray, List.set_cons_zero, List.set_cons_succ])
  refine wpAnyH_take (i := 1) (v := ?_) rfl (by kernel_rfl) (by kernel_rfl) (by kernel_rfl) (fun _ _ _ h => h) (Or.inl ⟨by rfl, ?_⟩) (by assumption) ?_
  rotate_left
  · (intro w hSw; (try dsimp only at hSw); go_simp; (try with_reducible rfl))
  (try simp only [Act.put, List.getElem_toArray, List.getElem_cons_zero, List.getElem_cons_succ, List.setIfInBounds_toArray, List.set_cons_zero, List.set_cons_succ])
  refine wpAnyH_take (i := 2) (v := ?_) rfl (by kernel_rfl) (by kernel_rfl) (by kernel_rfl) (fun _ _ _ h => h) (Or.inl ⟨by rfl, ?_⟩) (by assumption) ?_
  rotate_left
  · (intro w hSw; (try dsimp only at hSw); go_simp; (try with_reducible rfl))
  (try simp only [Act.put, List.getElem_toArray, List.getElem_cons_zero, List.getElem_cons_succ, List.setIfInBounds_toArray, List.set_cons_zero, List.set_cons_succ])
  refine wpAnyH_take (i := 3) (v := .slice (some ⟨g, 0, none⟩) hs.length c) rfl (by kernel_rfl) (by kernel_rfl) (by kernel_rfl) (fun _ _ _ h => h) (Or.inl ⟨by rfl, fun w hSw => by have c := hSw.1.blk.cv 0 (.slice (some ⟨g, 0, none⟩) hs.length c) rfl; go_simp⟩) (by assumption) ?_
  (try simp only [Act.put, List.getElem_toArray, List.getElem_cons_zero, List.getElem_cons_succ, List.setIfInBounds_toArray, List.set_cons_zero, List.set_cons_succ])
  refine wpAnyH_take (i := 4) (v := ?_) rfl (by kernel_rfl) (by kernel_rfl) (by kernel_rfl) (fun _ _ _ h => h) (Or.inl ⟨by rfl, ?_⟩) (by assumption) ?_
  rotate_left
  · (intro w hSw; (try dsimp only at hSw); go_simp; (try with_reducible rfl))
  (try simp only [Act.put, List.getElem_toArray, List.getElem_cons_zero, List.getElem_cons_succ, List.setIfInBounds_toArray, List.set_cons_zero, List.set_cons_succ])
  refine wpAnyH_take (i := 5) (v := ?_) rfl (by kernel_rfl) (by kernel_rfl) (by kernel_rfl) (fun _ _ _ h => h) (Or.inl ⟨by rfl, ?_⟩) (by assumption) ?_
  rotate_left
  · (intro w hSw; (try dsimp only at hSw); go_simp; (try with_reducible rfl))
  (try simp only [Act.put, List.getElem_toArray, List.getElem_cons_zero, List.getElem_cons_succ, List.setIfInBounds_toArray, List.set_cons_zero, List.set_cons_succ])
  refine wpAnyH_take (i := 6) (v := ?_) rfl (by kernel_rfl) (by kernel_rfl) (by kernel_rfl) (fun _ _ _ h => h) (Or.inl ⟨by rfl, ?_⟩) (by assumption) ?_
  rotate_left
  · (intro w hSw; (try dsimp only at hSw); go_simp; (try with_reducible rfl))
  (try simp only [Act.put, List.getElem_toArray, List.getElem_cons_zero, List.getElem_cons_succ, List.setIfInBounds_toArray, List.set_cons_zero, List.set_cons_succ])
  refine wpAnyH_take (i := 7) (v := .int .i64 x.x.st) rfl (by kernel_rfl) (by kernel_rfl) (by kernel_rfl) (fun _ _ _ h => h) (Or.inl ⟨by rfl, fun w hSw => by have c := hSw.2.2 3 (.int .i64 x.x.st) rfl; go_simp⟩) (by assumption) ?_
  (try simp only [Act.put, List.getElem_toArray, List.getElem_cons_zero, List.getElem_cons_succ, List.setIfInBounds_toArray, List.set_cons_zero, List.set_cons_succ])
  refine wpAnyH_take (i := 8) (v := ?_) rfl (by kernel_rfl) (by kernel_rfl) (by kernel_rfl) (fun _ _ _ h => h) (Or.inl ⟨by rfl, ?_⟩) (by assumption) ?_
  rotate_left
  · (intro w hSw; (try dsimp only at hSw); go_simp; (try with_reducible rfl))
  (try simp only [Act.put, List.getElem_toArray, List.getElem_cons_zero, List.getElem_cons_succ, List.setIfInBounds_toArray, List.set_cons_zero, List.set_cons_succ])
  refine wpAnyH_take (i := 9) (v := ?_) rfl (by kernel_rfl) (by kernel_rfl) (by kernel_rfl) (fun _ _ _ h => h) (Or.inl ⟨by rfl, ?_⟩) (by assumption) ?_
  rotate_left
  · (intro w hSw; (try dsimp only at hSw); go_simp; (try with_reducible rfl))
  (try simp only [Act.put, List.getElem_toArray, List.getElem_cons_zero, List.getElem_cons_succ, List.setIfInBounds_toArray, List.set_cons_zero, List.set_cons_succ])
  refine wpAnyH_take (i := 10) (v := .agg (frC f)) rfl (by kernel_rfl) (by kernel_rfl) (by kernel_rfl) (fun _ _ _ h => h) (Or.inl ⟨by rfl, fun w hSw => exec_load_blk (k := 0) 36 (frC f) rfl rfl hSw.2.1 (by kernel_rfl) (by kernel_rfl) rfl⟩) (by assumption) ?_
  (try simp only [Act.put, List.getElem_toArray, List.getElem_cons_zero, List.getElem_cons_succ, List.setIfInBounds_toArray, List.set_cons_zero, List.set_cons_succ])
  refine wpAnyH_ready (rs := [11]) (by kernel_rfl) (by simp) ?_
  refine AllReadyH.cons rfl (fun K hK => ?_) AllReadyH.nil
  simp only [List.getElem_toArray, List.getElem_cons_zero, List.getElem_cons_succ]
  go_simp
  refine (HVC.out _ hHeld.1 (hf.tags.below k3.drew)).mono ?_
  rintro e w4 ⟨rfl, k4⟩
  have h4 := hHeld.1.kept k4
  have hF4 := hHeld.2.1.kept k4
  have hcs4 := hHeld.2.2.below k4 hgl3
  refine hK.out _ _ ?_ (fun hHeld => ?_)
  · exact ⟨h4, hF4, hcs4⟩
  clear hK K
  (try simp only [Act.put, List.getElem_toArray, List.getElem_cons_zero, List.getElem_cons_succ, List.setIfInBounds_toArray, List.set_cons_zero, List.set_cons_succ])
  refine wpAnyH_take (i := 12) (v := ?_) rfl (by kernel_rfl) (by kernel_rfl) (by kernel_rfl) (fun _ _ _ h => h) (Or.inl ⟨by rfl, ?_⟩) (by assumption) ?_
  rotate_left
  · (intro w hSw; (try dsimp only at hSw); go_simp; (try with_reducible rfl))
  (try simp only [Act.put, List.getElem_toArray, List.getElem_cons_zero, List.getElem_cons_succ, List.setIfInBounds_toArray, List.set_cons_zero, List.set_cons_succ])
  refine wpAnyH_take (i := 13) (v := ?_) rfl (by kernel_rfl) (by kernel_rfl) (by kernel_rfl) (fun _ _ _ h => h) (Or.inl ⟨by rfl, ?_⟩) (by assumption) ?_
  rotate_left
  · (intro w hSw; (try dsimp only at hSw); go_simp; (try with_reducible rfl))
  (try simp only [Act.put, List.getElem_toArray, List.getElem_cons_zero, List.getElem_cons_succ, List.setIfInBounds_toArray, List.set_cons_zero, List.set_cons_succ])
  refine wpAnyH_done (by kernel_rfl) ?_ _
  refine NoPanic.normal ?_
  go_upto_region 9 with (first
    | (refine load_blk (k := 0) 33 (c6 f.d) (by rfl) rfl rfl hF4 (by kernel_rfl) (by kernel_rfl) (by rfl) ?_)
    | (go_at_call 39; refine (HRES.out _).mono ?_; rintro e w9 ⟨rfl, k9⟩; have hF9 := hF4.kept k9)
    | (refine load_blk (k := 6) 33 (c6 f.s) (by rfl) rfl rfl hF9 (by kernel_rfl) (by kernel_rfl) (by rfl) ?_)
    | (go_at_call 40; refine (HGR.out _).mono ?_; rintro e w10 ⟨rfl, k10⟩))
  have k59 := k9.trans (k10.mono k9.size)
  have h5 := h4.kept k59
  have hF5 := hF4.kept k59
  have k5 := (k3.drew.trans (k4.mono k3.size)).trans (k59.mono (Nat.le_trans k3.size k4.size))
  clear k9 k10 k59 hF4 hF9 h4 k4 k3 hF3 h3 hcs4 hcs3 HRES HGR HVC HRI HH
  refine wp_region_noPanic ?_
  refine wp_region_held_drew (S := (fun w' => Blk w' b 74 #[.slice (some ⟨g, 0, none⟩) hs.length c, .pointer (some ⟨t, 0, none⟩)] ∧ Blk w' w.heap.size 36 (frC f))) (by kernel_rfl) ?_ (fun hHeld => ?_)
  · exact ⟨h5.blk, hF5⟩
  refine wpAnyH_take (i := 0) (v := ?_) rfl (by kernel_rfl) (by kernel_rfl) (by kernel_rfl) (fun _ _ _ h => h) (Or.inl ⟨by rfl, ?_⟩) (by assumption) ?_
  rotate_left
  · (intro w hSw; (try dsimp only at hSw); go_simp; (try with_reducible rfl))
  (try simp only [Act.put, List.getElem_toArray, List.getElem_cons_zero, List.getElem_cons_succ, List.setIfInBounds_toArray, List.set_cons_zero, List.set_cons_succ])
  refine wpAnyH_take (i := 1) (v := ?_) rfl (by kernel_rfl) (by kernel_rfl) (by kernel_rfl) (fun _ _ _ h => h) (Or.inl ⟨by rfl, ?_⟩) (by assumption) ?_
  rotate_left
  · (intro w hSw; (try dsimp only at hSw); go_simp; (try with_reducible rfl))
  (try simp only [Act.put, List.getElem_toArray, List.getElem_cons_zero, List.getElem_cons_succ, List.setIfInBounds_toArray, List.set_cons_zero, List.set_cons_succ])
  refine wpAnyH_take (i := 2) (v := ?_) rfl (by kernel_rfl) (by kernel_rfl) (by kernel_rfl) (fun _ _ _ h => h) (Or.inl ⟨by rfl, ?_⟩) (by assumption) ?_
  rotate_left
  · (intro w hSw; (try dsimp only at hSw); go_simp; (try with_reducible rfl))
  (try simp only [Act.put, List.getElem_toArray, List.getElem_cons_zero, List.getElem_cons_succ, List.setIfInBounds_toArray, List.set_cons_zero, List.set_cons_succ])
  refine wpAnyH_take (i := 3) (v := .pointer (some ⟨t, 0, none⟩)) rfl (by kernel_rfl) (by kernel_rfl) (by kernel_rfl) (fun _ _ _ h => h) (Or.inl ⟨by rfl, fun w hSw => by have c := hSw.1.cv 1 (.pointer (some ⟨t, 0, none⟩)) rfl; go_simp⟩) (by assumption) ?_
  (try simp only [Act.put, List.getElem_toArray, List.getElem_cons_zero, List.getElem_cons_succ, List.setIfInBounds_toArray, List.set_cons_zero, List.set_cons_succ])
  refine wpAnyH_take (i := 4) (v := ?_) rfl (by kernel_rfl) (by kernel_rfl) (by kernel_rfl) (fun _ _ _ h => h) (Or.inl ⟨by rfl, ?_⟩) (by assumption) ?_
  rotate_left
  · (intro w hSw; (try dsimp only at hSw); go_simp; (try with_reducible rfl))
  (try simp only [Act.put, List.getElem_toArray, List.getElem_cons_zero, List.getElem_cons_succ, List.setIfInBounds_toArray, List.set_cons_zero, List.set_cons_succ])
  refine wpAnyH_take (i := 5) (v := ?_) rfl (by kernel_rfl) (by kernel_rfl) (by kernel_rfl) (fun _ _ _ h => h) (Or.inl ⟨by rfl, ?_⟩) (by assumption) ?_
  rotate_left
  · (intro w hSw; (try dsimp only at hSw); go_simp; (try with_reducible rfl))
  (try simp only [Act.put, List.getElem_toArray, List.getElem_cons_zero, List.getElem_cons_succ, List.setIfInBounds_toArray, List.set_cons_zero, List.set_cons_succ])
  refine wpAnyH_take (i := 6) (v := .agg (c6 f.s)) rfl (by kernel_rfl) (by kernel_rfl) (by kernel_rfl) (fun _ _ _ h => h) (Or.inl ⟨by rfl, fun w hSw => exec_load_blk (k := 6) 33 (c6 f.s) rfl rfl hSw.2 (by kernel_rfl) (by kernel_rfl) rfl⟩) (by assumption) ?_
  (try simp only [Act.put, List.getElem_toArray, List.getElem_cons_zero, List.getElem_cons_succ, List.setIfInBounds_toArray, List.set_cons_zero, List.set_cons_succ])
  refine wpAnyH_take (i := 7) (v := ?_) rfl (by kernel_rfl) (by kernel_rfl) (by kernel_rfl) (fun _ _ _ h => h) (Or.inl ⟨by rfl, ?_⟩) (by assumption) ?_
  rotate_left
  · (intro w hSw; (try dsimp only at hSw); go_simp; (try with_reducible rfl))
  (try simp only [Act.put, List.getElem_toArray, List.getElem_cons_zero, List.getElem_cons_succ, List.setIfInBounds_toArray, List.set_cons_zero, List.set_cons_succ])
  refine wpAnyH_take (i := 8) (v := ?_) rfl (by kernel_rfl) (by kernel_rfl) (by kernel_rfl) (fun _ _ _ h => h) (Or.inl ⟨by rfl, ?_⟩) (by assumption) ?_
  rotate_left
  · (intro w hSw; (try dsimp only at hSw); go_simp; (try with_reducible rfl))
  (try simp only [Act.put, List.getElem_toArray, List.getElem_cons_zero, List.getElem_cons_succ, List.setIfInBounds_toArray, List.set_cons_zero, List.set_cons_succ])
  refine wpAnyH_ready (rs := [9]) (by kernel_rfl) (by simp) ?_
  refine AllReadyH.cons rfl (fun K hK => ?_) AllReadyH.nil
  simp only [List.getElem_toArray, List.getElem_cons_zero, List.getElem_cons_succ]
  go_simp
  refine (learn_any B t age last E V f.s (k : Int) now _ (h5.tab.kept (Below.refl _ _).drew) hsb (Nat.le_trans hB (k5.drew).size)).mono ?_
  rintro e w6 ⟨rfl, h61, h62, hx6⟩
  rw [HERR.out, show errV 0 = .nilIface from rfl]
  have hb6 := hx6.blk hHeld.1 (by decide)
  have hF6 := hx6.blk hHeld.2 (by decide)
  refine hK.out _ _ ?_ (fun hHeld => ?_)
  · exact ⟨hb6, hF6⟩
  clear hK K
  (try simp only [Act.put, List.getElem_toArray, List.getElem_cons_zero, List.getElem_cons_succ, List.setIfInBounds_toArray, List.set_cons_zero, List.set_cons_succ])
  refine wpAnyH_take (i := 10) (v := ?_) rfl (by kernel_rfl) (by kernel_rfl) (by kernel_rfl) (fun _ _ _ h => h) (Or.inl ⟨by rfl, ?_⟩) (by assumption) ?_
  rotate_left
  · (intro w hSw; (try dsimp only at hSw); go_simp; (try with_reducible rfl))
  (try simp only [Act.put, List.getElem_toArray, List.getElem_cons_zero, List.getElem_cons_succ, List.setIfInBounds_toArray, List.set_cons_zero, List.set_cons_succ])
  refine wpAnyH_done (by kernel_rfl) ?_ _
  refine NoPanic.normal ?_
  have h6sz := hx6.size
  have h6 := (h5.kept (Below.refl _ _).drew).tabbed hx6 (h61 HERR.out)
  replace hx6 : Lx B LT w _ := (Lx.of k5.drew).trans hx6
  have HSZ := h6sz
  have hT6 := (hK.lx hx6).inL
  have HOUT := Lib.hid (out_any (B := B) (b := b) (t := t) (c := c) (ad := (some ⟨g, 0, none⟩)) (hs := hs) (k : Int) V now f _ h6 hT6 hf.few (Nat.le_trans hB hx6.size))
  go_wp2_with (first
    | (refine load_blk 36 (frC f) (by rfl) rfl rfl hF6 (by kernel_rfl) (by kernel_rfl) (by rfl) ?_)
    | (go_at_call 42; refine HOUT.out.mono ?_; rintro e w7 ⟨⟨v, ss, rfl, ho, hss⟩, k7⟩; obtain ⟨a7, c7, rfl, -⟩ := ho.inL))
  go_ret2
  refine InPost.some HR.out hV ho (Nat.le_trans k5.size HSZ) hss (h6.kept k7) (hx6.trans (Lx.of k7))

set_option maxHeartbeats 6400000 in
theorem in_err (h : BrgAt w B b t c ad hs age last E) (hf : FrIn w f) (hK : TagsK w B f.ta f.tl) (hd : ∀ i, f.d i < 256) (hsb : ∀ i, f.s i < 256) (hB : Zone.up B ≤ w.heap.size) (hb : hasB hs.length port = true) (hr : rightB f = true) (hlv : deadB ((hs.map PsH.x).getD port.toNat zPs) (vidM (hs.map PsH.x) port f.tl) f.d = false) (hgr : grpB f.s = false) (hle : learnErr last (vidM (hs.map PsH.x) port f.tl) f.s port now ≠ 0) :
    Calls Try.prog 17 #[.pointer (some ⟨b, 0, none⟩), .int .i64 port, frV f, .int .i64 now] w fun e w' => InPost B b t c ad hs age last E port now f w e w' := by
  have b1 : Below w.heap.size w (w.alloc (.cells (frC f) 36)) := (Below.refl _ _).alloc (Nat.le_refl _) _
  have hF1 : Blk (w.alloc (.cells (frC f) 36)) w.heap.size 36 (frC f) := HasF.new w f
  have h1 := h.kept b1
  have HH := Lib.hid (fun w h => has_any (B := B) (b := b) (t := t) (c := c) (ad := ad) (hs := hs) (age := age) (last := last) (E := E) port w h)
  unfold frV
  have HRI := Lib.hid (right_frame f (w.alloc (.cells (frC f) 36)) (hf.below b1))
  rw [hr] at HRI
  have hb' := hb
  rw [hb] at HH
  obtain ⟨k, rfl, hk⟩ := hasB_of hb
  obtain ⟨g, cur, rfl, hg, hgb, hcs⟩ := h1.at hk
  have hgl := hgb.lt
  have q1 : (k : Int) < (hs.length : Int) := by omega
  have q3 : (0 : Int) ≤ (k : Int) := by omega
  have hlive : (inM (hs.map PsH.x) age last E (k : Int) f now) = liveM (hs.map PsH.x) age last E (k : Int) f now hs[k].x := inM_live hk hr
  have HXG : Hid ((hs.map PsH.x).getD ((k : Int)).toNat zPs = hs[k].x) := by show _ = _; simp [hk]
  generalize hs[k] = x at *
  have hxg : (hs.map PsH.x).getD ((k : Int)).toNat zPs = x.x := HXG.out
  have HVC := Lib.hid (fun w h hT => vid_any (B := B) (b := b) (t := t) (c := c) (ad := (some ⟨g, 0, none⟩)) (hs := hs) (age := age) (last := last) (E := E) (k : Int) f w h hT hf.few)
  have HV : Hid (∃ V, vidM (hs.map PsH.x) (k : Int) f.tl = V) := ⟨_, rfl⟩
  generalize hV : vidM (hs.map PsH.x) (k : Int) f.tl = V at *
  have e1 : (x.x.st == 1) = false := by
    rw [hxg] at hlv
    unfold deadB at hlv
    simp only [Bool.or_eq_false_iff] at hlv
    exact hlv.1
  have e2 : (V == 0) = false := by
    rw [hxg] at hlv
    unfold deadB at hlv
    simp only [Bool.or_eq_false_iff] at hlv
    exact hlv.2.1
  have e3 : decide (0 ≤ resv f.d) = false := by
    rw [hxg] at hlv
    unfold deadB at hlv
    simp only [Bool.or_eq_false_iff] at hlv
    exact hlv.2.2
  have hde : deadB x.x V f.d = false := by rw [hxg] at hlv; exact hlv
  have HRES : Hid (∀ W, Calls Try.prog 39 #[.agg (c6 f.d)] W fun e w' => e = .returned (.int .i64 (resv f.d)) ∧ Below W.heap.size W w') := fun W => reserved_any f.d hd W
  have HGR : Hid (∀ W, Calls Try.prog 40 #[.agg (c6 f.s)] W fun e w' => e = .returned (.bool (grpB f.s)) ∧ Below W.heap.size W w') := fun W => group6 f.s hsb W
  rw [hgr] at HGR
  clear hd hlv hxg
  have HNE := Lib.hid hle
  have HEV : Hid (errV (learnErr last V f.s (k : Int) now) = .iface 71 (.int .i64 (learnErr last V f.s (k : Int) now))) := if_neg hle
  have HR : Hid (inM (hs.map PsH.x) age last E (k : Int) f now = ⟨learnErr last V f.s (k : Int) now, last, E, []⟩) := by
    show _ = _
    rw [hlive]
    unfold liveM
    simp only [hV, hde, hgr, if_true, if_false, Bool.false_eq_true, ne_eq, not_true_eq_false, hle, not_false_eq_true]
    try rfl
  clear hlive hde
  go_enter Try.func17, Try.ntmps17
  go_upto_region 1 with (refine box_blk 36 (frC f) (by rfl) rfl rfl ?_)
  generalize w.alloc (.cells (frC f) 36) = w1 at *
  go_upto_region 3 with (go_at_call 36; refine (HH.out _ h1).mono ?_; rintro e w' ⟨rfl, rfl⟩)
  go_upto_region 5 with (first
    | (refine load_blk 36 (frC f) (by rfl) rfl rfl hF1 (by kernel_rfl) (by kernel_rfl) (by rfl) ?_)
    | (go_at_call 33; refine HRI.out.mono ?_; rintro e w3 ⟨rfl, k3⟩))
  have h3 := h1.kept k3
  have hF3 := hF1.kept k3
  have hcs3 := hcs.below k3 hgl
  have hgl3 : g < w3.heap.size := Nat.lt_of_lt_of_le hgl k3.size
  replace k3 := b1.trans (k3.mono b1.size)
  refine wp_region_noPanic ?_
  refine wp_region_held_drew (S := (fun w' => BrgAt w' B b t c (some ⟨g, 0, none⟩) hs age last E ∧ Blk w' w.heap.size 36 (frC f) ∧ CellsAt w' g (k * 4) (psC x))) (by kernel_rfl) ?_ (fun hHeld => ?_)
  · exact ⟨h3.kept (Below.refl _ _).drew, hF3, hcs3⟩
  refine wpAnyH_take (i := 0) (v := ?_) rfl (by kernel_rfl) (by kernel_rfl) (by kernel_rfl) (fun _ _ _ h => h) (Or.inl ⟨by rfl, ?_⟩) (by assumption) ?_
  rotate_left
  · (intro w hSw; (try dsimp only at hSw); go_simp; (try with_reducible rfl))
  (try simp only [Act.put, List.getElem_toArray, List.getElem_cons_zero, List.getElem_cons_succ, List.setIfInBounds_toArray, List.set_cons_zero, List.set_cons_succ])
  refine wpAnyH_take (i := 1) (v := ?_) rfl (by kernel_rfl) (by kernel_rfl) (by kernel_rfl) (fun _ _ _ h => h) (Or.inl ⟨by rfl, ?_⟩) (by assumption) ?_
  rotate_left
  · (intro w hSw; (try dsimp only at hSw); go_simp; (try with_reducible rfl))
  (try simp only [Act.put, List.getElem_toArray, List.getElem_cons_zero, List.getElem_cons_succ, List.setIfInBounds_toArray, List.set_cons_zero, List.set_cons_succ])
  refine wpAnyH_take (i := 2) (v := ?_) rfl (by kernel_rfl) (by kernel_rfl) (by kernel_rfl) (fun _ _ _ h => h) (Or.inl ⟨by rfl, ?_⟩) (by assumption) ?_
  rotate_left
  · (intro w hSw; (try dsimp only at hSw); go_simp; (try with_reducible rfl))
  (try simp only [Act.put, List.getElem_toArray, List.getElem_cons_zero, List.getElem_cons_succ, List.setIfInBounds_toArray, List.set_cons_zero, List.set_cons_succ])
  refine wpAnyH_take (i := 3) (v := .slice (some ⟨g, 0, none⟩) hs.length c) rfl (by kernel_rfl) (by kernel_rfl) (by kernel_rfl) (fun _ _ _ h => h) (Or.inl ⟨by rfl, fun w hSw => by have c := hSw.1.blk.cv 0 (.slice (some ⟨g, 0, none⟩) hs.length c) rfl; go_simp⟩) (by assumption) ?_
  (try simp only [Act.put, List.getElem_toArray, List.getElem_cons_zero, List.getElem_cons_succ, List.setIfInBounds_toArray, List.set_cons_zero, List.set_cons_succ])
  refine wpAnyH_take (i := 4) (v := ?_) rfl (by kernel_rfl) (by kernel_rfl) (by kernel_rfl) (fun _ _ _ h => h) (Or.inl ⟨by rfl, ?_⟩) (by assumption) ?_
  rotate_left
  · (intro w hSw; (try dsimp only at hSw); go_simp; (try with_reducible rfl))
  (try simp only [Act.put, List.getElem_toArray, List.getElem_cons_zero, List.getElem_cons_succ, List.setIfInBounds_toArray, List.set_cons_zero, List.set_cons_succ])
  refine wpAnyH_take (i := 5) (v := ?_) rfl (by kernel_rfl) (by kernel_rfl) (by kernel_rfl) (fun _ _ _ h => h) (Or.inl ⟨by rfl, ?_⟩) (by assumption) ?_
  rotate_left
  · (intro w hSw; (try dsimp only at hSw); go_simp; (try with_reducible rfl))
  (try simp only [Act.put, List.getElem_toArray, List.getElem_cons_zero, List.getElem_cons_succ, List.setIfInBounds_toArray, List.set_cons_zero, List.set_cons_succ])
  refine wpAnyH_take (i := 6) (v := ?_) rfl (by kernel_rfl) (by kernel_rfl) (by kernel_rfl) (fun _ _ _ h => h) (Or.inl ⟨by rfl, ?_⟩) (by assumption) ?_
  rotate_left
  · (intro w hSw; (try dsimp only at hSw); go_simp; (try with_reducible rfl))
  (try simp only [Act.put, List.getElem_toArray, List.getElem_cons_zero, List.getElem_cons_succ, List.setIfInBounds_toArray, List.set_cons_zero, List.set_cons_succ])
  refine wpAnyH_take (i := 7) (v := .int .i64 x.x.st) rfl (by kernel_rfl) (by kernel_rfl) (by kernel_rfl) (fun _ _ _ h => h) (Or.inl ⟨by rfl, fun w hSw => by have c := hSw.2.2 3 (.int .i64 x.x.st) rfl; go_simp⟩) (by assumption) ?_
  (try simp only [Act.put, List.getElem_toArray, List.getElem_cons_zero, List.getElem_cons_succ, List.setIfInBounds_toArray, List.set_cons_zero, List.set_cons_succ])
  refine wpAnyH_take (i := 8) (v := ?_) rfl (by kernel_rfl) (by kernel_rfl) (by kernel_rfl) (fun _ _ _ h => h) (Or.inl ⟨by rfl, ?_⟩) (by assumption) ?_
  rotate_left
  · (intro w hSw; (try dsimp only at hSw); go_simp; (try with_reducible rfl))
  (try simp only [Act.put, List.getElem_toArray, List.getElem_cons_zero, List.getElem_cons_succ, List.setIfInBounds_toArray, List.set_cons_zero, List.set_cons_succ])
  refine wpAnyH_take (i := 9) (v := ?_) rfl (by kernel_rfl) (by kernel_rfl) (by kernel_rfl) (fun _ _ _ h => h) (Or.inl ⟨by rfl, ?_⟩) (by assumption) ?_
  rotate_left
  · (intro w hSw; (try dsimp only at hSw); go_simp; (try with_reducible rfl))
  (try simp only [Act.put, List.getElem_toArray, List.getElem_cons_zero, List.getElem_cons_succ, List.setIfInBounds_toArray, List.set_cons_zero, List.set_cons_succ])
  refine wpAnyH_take (i := 10) (v := .agg (frC f)) rfl (by kernel_rfl) (by kernel_rfl) (by kernel_rfl) (fun _ _ _ h => h) (Or.inl ⟨by rfl, fun w hSw => exec_load_blk (k := 0) 36 (frC f) rfl rfl hSw.2.1 (by kernel_rfl) (by kernel_rfl) rfl⟩) (by assumption) ?_
  (try simp only [Act.put, List.getElem_toArray, List.getElem_cons_zero, List.getElem_cons_succ, List.setIfInBounds_toArray, List.set_cons_zero, List.set_cons_succ])
  refine wpAnyH_ready (rs := [11]) (by kernel_rfl) (by simp) ?_
  refine AllReadyH.cons rfl (fun K hK => ?_) AllReadyH.nil
  simp only [List.getElem_toArray, List.getElem_cons_zero, List.getElem_cons_succ]
  go_simp
  refine (HVC.out _ hHeld.1 (hf.tags.below k3.drew)).mono ?_
  rintro e w4 ⟨rfl, k4⟩
  have h4 := hHeld.1.kept k4
  have hF4 := hHeld.2.1.kept k4
  have hcs4 := hHeld.2.2.below k4 hgl3
  refine hK.out _ _ ?_ (fun hHeld => ?_)
  · exact ⟨h4, hF4, hcs4⟩
  clear hK K
  (try simp only [Act.put, List.getElem_toArray, List.getElem_cons_zero, List.getElem_cons_succ, List.setIfInBounds_toArray, List.set_cons_zero, List.set_cons_succ])
  refine wpAnyH_take (i := 12) (v := ?_) rfl (by kernel_rfl) (by kernel_rfl) (by kernel_rfl) (fun _ _ _ h => h) (Or.inl ⟨by rfl, ?_⟩) (by assumption) ?_
  rotate_left
  · (intro w hSw; (try dsimp only at hSw); go_simp; (try with_reducible rfl))
  (try simp only [Act.put, List.getElem_toArray, List.getElem_cons_zero, List.getElem_cons_succ, List.setIfInBounds_toArray, List.set_cons_zero, List.set_cons_succ])
  refine wpAnyH_take (i := 13) (v := ?_) rfl (by kernel_rfl) (by kernel_rfl) (by kernel_rfl) (fun _ _ _ h => h) (Or.inl ⟨by rfl, ?_⟩) (by assumption) ?_
  rotate_left
  · (intro w hSw; (try dsimp only at hSw); go_simp; (try with_reducible rfl))
  (try simp only [Act.put, List.getElem_toArray, List.getElem_cons_zero, List.getElem_cons_succ, List.setIfInBounds_toArray, List.set_cons_zero, List.set_cons_succ])
  refine wpAnyH_done (by kernel_rfl) ?_ _
  refine NoPanic.normal ?_
  go_upto_region 9 with (first
    | (refine load_blk (k := 0) 33 (c6 f.d) (by rfl) rfl rfl hF4 (by kernel_rfl) (by kernel_rfl) (by rfl) ?_)
    | (go_at_call 39; refine (HRES.out _).mono ?_; rintro e w9 ⟨rfl, k9⟩; have hF9 := hF4.kept k9)
    | (refine load_blk (k := 6) 33 (c6 f.s) (by rfl) rfl rfl hF9 (by kernel_rfl) (by kernel_rfl) (by rfl) ?_)
    | (go_at_call 40; refine (HGR.out _).mono ?_; rintro e w10 ⟨rfl, k10⟩))
  have k59 := k9.trans (k10.mono k9.size)
  have h5 := h4.kept k59
  have hF5 := hF4.kept k59
  have k5 := (k3.drew.trans (k4.mono k3.size)).trans (k59.mono (Nat.le_trans k3.size k4.size))
  clear k9 k10 k59 hF4 hF9 h4 k4 k3 hF3 h3 hcs4 hcs3 HRES HGR HVC HRI HH
  refine wp_region_noPanic ?_
  refine wp_region_held_drew (S := (fun w' => Blk w' b 74 #[.slice (some ⟨g, 0, none⟩) hs.length c, .pointer (some ⟨t, 0, none⟩)] ∧ Blk w' w.heap.size 36 (frC f))) (by kernel_rfl) ?_ (fun hHeld => ?_)
  · exact ⟨h5.blk, hF5⟩
  refine wpAnyH_take (i := 0) (v := ?_) rfl (by kernel_rfl) (by kernel_rfl) (by kernel_rfl) (fun _ _ _ h => h) (Or.inl ⟨by rfl, ?_⟩) (by assumption) ?_
  rotate_left
  · (intro w hSw; (try dsimp only at hSw); go_simp; (try with_reducible rfl))
  (try simp only [Act.put, List.getElem_toArray, List.getElem_cons_zero, List.getElem_cons_succ, List.setIfInBounds_toArray, List.set_cons_zero, List.set_cons_succ])
  refine wpAnyH_take (i := 1) (v := ?_) rfl (by kernel_rfl) (by kernel_rfl) (by kernel_rfl) (fun _ _ _ h => h) (Or.inl ⟨by rfl, ?_⟩) (by assumption) ?_
  rotate_left
  · (intro w hSw; (try dsimp only at hSw); go_simp; (try with_reducible rfl))
  (try simp only [Act.put, List.getElem_toArray, List.getElem_cons_zero, List.getElem_cons_succ, List.setIfInBounds_toArray, List.set_cons_zero, List.set_cons_succ])
  refine wpAnyH_take (i := 2) (v := ?_) rfl (by kernel_rfl) (by kernel_rfl) (by kernel_rfl) (fun _ _ _ h => h) (Or.inl ⟨by rfl, ?_⟩) (by assumption) ?_
  rotate_left
  · (intro w hSw; (try dsimp only at hSw); go_simp; (try with_reducible rfl))
  (try simp only [Act.put, List.getElem_toArray, List.getElem_cons_zero, List.getElem_cons_succ, List.setIfInBounds_toArray, List.set_cons_zero, List.set_cons_succ])
  refine wpAnyH_take (i := 3) (v := .pointer (some ⟨t, 0, none⟩)) rfl (by kernel_rfl) (by kernel_rfl) (by kernel_rfl) (fun _ _ _ h => h) (Or.inl ⟨by rfl, fun w hSw => by have c := hSw.1.cv 1 (.pointer (some ⟨t, 0, none⟩)) rfl; go_simp⟩) (by assumption) ?_
  (try simp only [Act.put, List.getElem_toArray, List.getElem_cons_zero, List.getElem_cons_succ, List.setIfInBounds_toArray, List.set_cons_zero, List.set_cons_succ])
  refine wpAnyH_take (i := 4) (v := ?_) rfl (by kernel_rfl) (by kernel_rfl) (by kernel_rfl) (fun _ _ _ h => h) (Or.inl ⟨by rfl, ?_⟩) (by assumption) ?_
  rotate_left
  · (intro w hSw; (try dsimp only at hSw); go_simp; (try with_reducible rfl))
  (try simp only [Act.put, List.getElem_toArray, List.getElem_cons_zero, List.getElem_cons_succ, List.setIfInBounds_toArray, List.set_cons_zero, List.set_cons_succ])
  refine wpAnyH_take (i := 5) (v := ?_) rfl (by kernel_rfl) (by kernel_rfl) (by kernel_rfl) (fun _ _ _ h => h) (Or.inl ⟨by rfl, ?_⟩) (by assumption) ?_
  rotate_left
  · (intro w hSw; (try dsimp only at hSw); go_simp; (try with_reducible rfl))
  (try simp only [Act.put, List.getElem_toArray, List.getElem_cons_zero, List.getElem_cons_succ, List.setIfInBounds_toArray, List.set_cons_zero, List.set_cons_succ])
  refine wpAnyH_take (i := 6) (v := .agg (c6 f.s)) rfl (by kernel_rfl) (by kernel_rfl) (by kernel_rfl) (fun _ _ _ h => h) (Or.inl ⟨by rfl, fun w hSw => exec_load_blk (k := 6) 33 (c6 f.s) rfl rfl hSw.2 (by kernel_rfl) (by kernel_rfl) rfl⟩) (by assumption) ?_
  (try simp only [Act.put, List.getElem_toArray, List.getElem_cons_zero, List.getElem_cons_succ, List.setIfInBounds_toArray, List.set_cons_zero, List.set_cons_succ])
  refine wpAnyH_take (i := 7) (v := ?_) rfl (by kernel_rfl) (by kernel_rfl) (by kernel_rfl) (fun _ _ _ h => h) (Or.inl ⟨by rfl, ?_⟩) (by assumption) ?_
  rotate_left
  · (intro w hSw; (try dsimp only at hSw); go_simp; (try with_reducible rfl))
  (try simp only [Act.put, List.getElem_toArray, List.getElem_cons_zero, List.getElem_cons_succ, List.setIfInBounds_toArray, List.set_cons_zero, List.set_cons_succ])
  refine wpAnyH_take (i := 8) (v := ?_) rfl (by kernel_rfl) (by kernel_rfl) (by kernel_rfl) (fun _ _ _ h => h) (Or.inl ⟨by rfl, ?_⟩) (by assumption) ?_
  rotate_left
  · (intro w hSw; (try dsimp only at hSw); go_simp; (try with_reducible rfl))
  (try simp only [Act.put, List.getElem_toArray, List.getElem_cons_zero, List.getElem_cons_succ, List.setIfInBounds_toArray, List.set_cons_zero, List.set_cons_succ])
  refine wpAnyH_ready (rs := [9]) (by kernel_rfl) (by simp) ?_
  refine AllReadyH.cons rfl (fun K hK => ?_) AllReadyH.nil
  simp only [List.getElem_toArray, List.getElem_cons_zero, List.getElem_cons_succ]
  go_simp
  refine (learn_any B t age last E V f.s (k : Int) now _ (h5.tab.kept (Below.refl _ _).drew) hsb (Nat.le_trans hB (k5.drew).size)).mono ?_
  rintro e w6 ⟨rfl, h61, h62, hx6⟩
  rw [HEV.out]
  generalize hlv : learnErr last V f.s (k : Int) now = ev at *
  have hb6 := hx6.blk hHeld.1 (by decide)
  have hF6 := hx6.blk hHeld.2 (by decide)
  refine hK.out _ _ ?_ (fun hHeld => ?_)
  · exact ⟨hb6, hF6⟩
  clear hK K
  (try simp only [Act.put, List.getElem_toArray, List.getElem_cons_zero, List.getElem_cons_succ, List.setIfInBounds_toArray, List.set_cons_zero, List.set_cons_succ])
  refine wpAnyH_take (i := 10) (v := ?_) rfl (by kernel_rfl) (by kernel_rfl) (by kernel_rfl) (fun _ _ _ h => h) (Or.inl ⟨by rfl, ?_⟩) (by assumption) ?_
  rotate_left
  · (intro w hSw; (try dsimp only at hSw); go_simp; (try with_reducible rfl))
  (try simp only [Act.put, List.getElem_toArray, List.getElem_cons_zero, List.getElem_cons_succ, List.setIfInBounds_toArray, List.set_cons_zero, List.set_cons_succ])
  refine wpAnyH_done (by kernel_rfl) ?_ _
  refine NoPanic.normal ?_
  have h6 := (h5.kept (Below.refl _ _).drew).tabbed hx6 (h62 HNE.out)
  replace hx6 : Lx B LT w _ := (Lx.of k5.drew).trans hx6
  go_wp2
  go_ret2
  exact InPost.none HR.out HEV.out.symm rfl h6 hx6
end

end Go.Proofs.Ytdceggekhhflgaa
