/- Texts one behind the other. mvrp.messages and attrs: the makers, and the iterators at whatever loop's body. mvrp.Read: what stays as it is from round to round. mvrp.Read at every text. Are attributes the same? switchyardkeep.wanted, lots. 16.3: what Pack has packed so far, in memory: a row of attributes of its own, the last one's events above all others'. 16.3: what Pack answers, plainly: the first pair that may not be. 16.3: packing run by run makes what packing one by one makes. A region that draws its order: a load that must come before the region's own store to the same place. Ahead of an operation of D a fact S holds at every world; from it on nothing is asked. A region that draws its order: loads that must come before the region's own stores to the same place (S), beside loads of what the region leaves as it was (T): ahead of an operation of D both hold, behind it T alone. 16.3: mvrp.Pack at every list of VIDs. mvrp.Pack: what it answers where all may be, and where the mth may not. slices.ContainsFunc over attributes, MvrpFewest's closures. switchyardkeep.lots: more than can be held. slices.Equal of lists of records that are the same. errors.As at a target of type *api.Errno, and api.Tell: the Errno of nil, of an Errno, and of an *api.At. errors.As at a target of type *api.Errno: an Errno is found; an *api.At by its Unwrap. api.Tell, plain.Place, and what the laws make of them, at nil, at an Errno, and at an *api.At. -/
import Derived.Test.YtdjljnpbnhampaaDoorMvRound
import Derived.Test.YtdjljnpbnhampaaDoorMvAttr
import Derived.Test.YtdjljnpbnhampaaDoorRF
import Derived.Test.YtdjljnpbnhampaaDoorExp
import Derived.RangeFuncBound
import Derived.Test.YtdjljnpbnhampaaDoorMvWrite
import Derived.Test.YtdjljnpbnhampaaDoorShelf
import Derived.Test.YtdjljnpbnhampaaDoorMvPackM
import Derived.Test.YtdjljnpbnhampaaDoorBlk
import Derived.Deep.RegionHeld3
import Derived.Test.YtdjljnpbnhampaaDoorMvEach
import Derived.Test.YtdjljnpbnhampaaDoorPrS
import Derived.Test.YtdjljnpbnhampaaDoorFlt
import Derived.LaidEql
import Derived.Stop.Asserts
import Derived.RowKitTokens
import Derived.Lib.Hide
namespace Go.Proofs.YtdjljnpbnhampaaDoor
open Go.RowKit
attribute [local go_sem ↓] Go.wp_at_zero Go.wp_at_succ
set_option linter.unusedSimpArgs false
set_option linter.unusedVariables false
set_option maxRecDepth 100000

theorem messages_any (g : Nat) (w : World) :
    Calls Tryd.prog 59 #[.pointer (some ⟨g, 0, none⟩)] w fun e w' => e = .returned (.func (.func 87) #[] #[.pointer (some ⟨w.heap.size, 0, none⟩)]) ∧
      Blk w' w.heap.size 112 #[.pointer (some ⟨g, 0, none⟩)] ∧ Below w.heap.size w w' ∧ w'.heap.size = w.heap.size + 1 := by
  have hmf : ∀ (fn : Fn) (first cap : Array Value) (w : World), (Instr.makeFunc fn first cap).run Tryd.prog w = .ok (.func fn first cap) w := fun _ _ _ _ => rfl
  have h1 := Blk.new w 112 #[.pointer (some ⟨g, 0, none⟩)]
  have b : Below w.heap.size w (w.alloc (.cells #[.pointer (some ⟨g, 0, none⟩)] 112)) := (Below.refl _ _).alloc (Nat.le_refl _) _
  go_enter Tryd.func59, Tryd.ntmps59
  go_wp2
  go_ret
  exact ⟨rfl, h1, b, by simp⟩

theorem attrs_any (g : Nat) (w : World) :
    Calls Tryd.prog 60 #[.pointer (some ⟨g, 0, none⟩)] w fun e w' => e = .returned (.func (.func 89) #[] #[.pointer (some ⟨w.heap.size, 0, none⟩)]) ∧
      Blk w' w.heap.size 112 #[.pointer (some ⟨g, 0, none⟩)] ∧ Below w.heap.size w w' ∧ w'.heap.size = w.heap.size + 1 := by
  have hmf : ∀ (fn : Fn) (first cap : Array Value) (w : World), (Instr.makeFunc fn first cap).run Tryd.prog w = .ok (.func fn first cap) w := fun _ _ _ _ => rfl
  have h1 := Blk.new w 112 #[.pointer (some ⟨g, 0, none⟩)]
  have b : Below w.heap.size w (w.alloc (.cells #[.pointer (some ⟨g, 0, none⟩)] 112)) := (Below.refl _ _).alloc (Nat.le_refl _) _
  go_enter Tryd.func60, Tryd.ntmps60
  go_wp2
  go_ret
  exact ⟨rfl, h1, b, by simp⟩

set_option maxHeartbeats 3200000 in
/-- messages: J st holds between two messages, the reader at st. -/
theorem messages_it {g b1 l : Nat} {S : ByteArray} (hb : S.size ≤ 281474976710656) (J : RSt → World → Prop) (hr : ∀ st W, J st W → RdT W g S 0 st ∧ st.1 ≤ S.size ∧ Blk W b1 112 #[.pointer (some ⟨g, 0, none⟩)])
    (hY : ∀ st W0 W, J st W0 → mhV S.data.toList st = true → RdT W g S 0 (mhS S.data.toList st) → W0.grownBy W (some g) →
      YieldAt Fence.wide 0 Tryd.prog l #[.int .i64 (st.1 : Nat)] W fun e W' => e = .returned (.bool true) ∧ ∃ st', J st' W' ∧ rdLeft S.size W' g < rdLeft S.size W0 g)
    (st0 : RSt) (w : World) (h0 : J st0 w) :
    Calls Tryd.prog 87 #[.func (.yield l) #[] #[], .pointer (some ⟨b1, 0, none⟩)] w fun e w' => (∃ v, e = .returned v) ∧ ∃ st W0, J st W0 ∧ mhV S.data.toList st = false ∧ RdT w' g S 0 (mhS S.data.toList st) ∧ W0.grownBy w' (some g) := by
  have HA : Hid (∀ st W, J st W → Calls Tryd.prog 77 #[.pointer (some ⟨g, 0, none⟩)] W fun e w' => e = .returned (.int .i64 (st.1 : Nat)) ∧ W = w') := fun st W h => by
    have q := atT st W (hr st W h).1
    rw [show ((0 : Nat) : Int) + (st.1 : Int) = ((st.1 : Nat) : Int) by omega] at q
    exact q
  have c0 := (hr st0 w h0).2.2.cv 0 (.pointer (some ⟨g, 0, none⟩)) rfl
  go_enter Tryd.func87, Tryd.ntmps87
  go_wp2_with fail
  refine (HA.out _ _ h0).mono ?_
  rintro e w1 ⟨rfl, rfl⟩
  go_wp2_with fail
  go_loopw [3] (fun v wr => ∃ st : RSt, v = .int .i64 (st.1 : Nat) ∧ J st wr) (fun _ wr => rdLeft S.size wr g)
  case atStart => exact ⟨st0, rfl, h0⟩
  case round =>
    clear c0 h0
    obtain ⟨st, rfl, HJ⟩ := hrel
    obtain ⟨HR, hp, HX⟩ := hr _ _ HJ
    have c1 := HX.cv 0 (.pointer (some ⟨g, 0, none⟩)) rfl
    have HH := Lib.hid (readHead_m st _ HR hp hb)
    have HYY := Lib.hid (fun W hv => hY st _ W HJ hv)
    cases hv : mhV S.data.toList st with
    | false =>
      rw [hv] at HH
      go_wp2_with fail
      refine HH.out.mono ?_
      rintro e w2 ⟨rfl, HR2, g2⟩
      go_wp2
      go_end0
      exact ⟨⟨_, rfl⟩, st, _, HJ, hv, HR2, g2⟩
    | true =>
      rw [hv] at HH
      have HY2 := Lib.hid (fun W => HYY.out W hv)
      clear HYY hv
      obtain ⟨p, hpp⟩ : ∃ p : Nat, st.1 = p := ⟨_, rfl⟩
      rw [hpp] at HY2 ⊢
      go_wp2_with fail
      refine HH.out.mono ?_
      rintro e w2 ⟨rfl, HR2, g2⟩
      have HY3 := HY2.out w2 HR2 g2
      clear HH HY2 hpp
      go_upto_region 3 with (fail)
      refine (wpIn_wide (n := 0)).1 ?_
      obtain ⟨fn, tmps, assign, body, hy, hR⟩ := HY3
      gi_wp2
      refine ⟨rfl, hR.mono ?_⟩
      rintro e W3 ⟨rfl, st', HJ3, hms⟩
      have HX3 := (hr _ _ HJ3).2.2
      have c3 := HX3.cv 0 (.pointer (some ⟨g, 0, none⟩)) rfl
      have HA3 := Lib.hid (HA.out _ _ HJ3)
      gi_wp2
      go_wp2_with fail
      refine HA3.out.mono ?_
      rintro e w4 ⟨rfl, rfl⟩
      go_wp2
      go_roundw
      case rel => exact ⟨st', rfl, HJ3⟩
      case measure => exact hms

set_option maxHeartbeats 3200000 in
/-- attrs: J st holds between two attributes. -/
theorem attrs_it {g b1 l : Nat} {S : ByteArray} (hb : S.size ≤ 281474976710656) (J : RSt → World → Prop) (E : World → Prop) (hr : ∀ st W, J st W → RdT W g S 0 st ∧ Blk W b1 112 #[.pointer (some ⟨g, 0, none⟩)])
    (hY : ∀ st W0, J st W0 → ∃ RA, AtI S.data.toList RA st ∧
      (∀ hd st' W, AtOut S.data.toList RA hd.x st' → st'.2.1 = 0 → OwnIv W W0.heap.size (.slice hd.a hd.x.ev.length hd.c) hd.x.ev → RdT W g S 0 st' → W0.grownBy W (some g) →
        YieldAt Fence.wide 0 Tryd.prog l #[.agg (mvC hd)] W fun e W' => e = .returned (.bool true) ∧ ∃ st'', J st'' W' ∧ rdLeft S.size W' g < rdLeft S.size W0 g) ∧
      (∀ st' W, AtEnd S.data.toList RA st' → RdT W g S 0 st' → W0.grownBy W (some g) → E W))
    (st0 : RSt) (w : World) (h0 : J st0 w) :
    Calls Tryd.prog 89 #[.func (.yield l) #[] #[], .pointer (some ⟨b1, 0, none⟩)] w fun e w' => (∃ v, e = .returned v) ∧ E w' := by
  go_enter Tryd.func89, Tryd.ntmps89
  go_wp2_with fail
  go_loopw [] (fun wr => ∃ st : RSt, J st wr) (fun wr => rdLeft S.size wr g)
  case atStart => exact ⟨st0, h0⟩
  case round =>
    clear h0
    obtain ⟨st, HJ⟩ := hrel
    obtain ⟨HR, HX⟩ := hr _ _ HJ
    have c1 := HX.cv 0 (.pointer (some ⟨g, 0, none⟩)) rfl
    obtain ⟨RA, hI, hgo, hend⟩ := hY _ _ HJ
    have HH := Lib.hid (readAttr_t RA st hI _ HR hb)
    have HGO := Lib.hid hgo
    have HEN := Lib.hid hend
    clear hgo hend hI HR
    go_wp2_with fail
    refine HH.out.mono ?_
    rintro e w2 ⟨hd, more, st', rfl, hA, HR2, g2⟩
    clear HH
    have HZ := Blk.new w2 92 (mvC zMvH)
    have b3 : Below w2.heap.size w2 (w2.alloc (.cells (mvC zMvH) 92)) := (Below.refl _ _).alloc (Nat.le_refl _) _
    rcases hA with ⟨rfl, hO, hs0, HO⟩ | ⟨rfl, hE⟩
    · go_upto_region 1 with (first
        | (refine alloc_blk 92 (mvC zMvH) (by rfl) rfl Tryd.mhZero ?_)
        | (refine store_blk (k := 0) 92 (.agg (mvC hd)) (mvC hd) (by rfl) rfl rfl rfl HZ (by kernel_rfl) (show (3 : Nat) ≤ 3 from Nat.le_refl 3) (by rfl) (st_whole _ _ rfl) ?_; intro w5 HA5 b5 g5))
      have b35 := b3.trans b5
      have HY5 := HGO.out hd st' w5 hO hs0 (HO.kept b35) (HR2.below b35) (grown_belowT g2 b35)
      clear HGO HEN HZ b3 b5 g5 b35 HR2 HO hO
      generalize w2.heap.size = B2 at *
      refine (wpIn_wide (n := 0)).1 ?_
      obtain ⟨fn, tmps, assign, body, hy, hR⟩ := HY5
      gi_wp2_with (refine loadR (k := 0) 92 (mvC hd) (by rfl) rfl rfl HA5 (by kernel_rfl) (by kernel_rfl) rfl ?_)
      refine ⟨rfl, hR.mono ?_⟩
      rintro e W3 ⟨rfl, st'', HJ3, hms⟩
      gi_wp2
      go_wp2
      go_roundw
      case rel => exact ⟨st'', HJ3⟩
      case measure => exact hms
    · have hEE := Lib.hid hE
      go_wp2_with (first
        | (refine alloc_blk 92 (mvC zMvH) (by rfl) rfl Tryd.mhZero ?_)
        | (refine store_blk (k := 0) 92 (.agg (mvC hd)) (mvC hd) (by rfl) rfl rfl rfl HZ (by kernel_rfl) (show (3 : Nat) ≤ 3 from Nat.le_refl 3) (by rfl) (st_whole _ _ rfl) ?_; intro w5 HA5 b5 g5))
      (try simp only [Exit.inBlock, Exit.then]); refine bodyPost_ret (results_none rfl _ _ _) rfl ?_
      have b35 := b3.trans b5
      exact ⟨⟨_, rfl⟩, HEN.out st' w5 hEE.out (HR2.below b35) (grown_belowT g2 b35)⟩

end Go.Proofs.YtdjljnpbnhampaaDoor

namespace Go.Proofs.YtdjljnpbnhampaaDoor
open Go.RowKit
set_option linter.unusedVariables false
set_option maxRecDepth 100000

/-- Objects that reading never writes. -/
def okO (o : Obj) : Prop := ∀ C T F, o = Obj.cells C T F → T = 112 ∨ T = 3

theorem okO_loop (r : Loop) : okO (.loop r) := fun _ _ _ h => by cases h

theorem okO_mark (d : Option (List Deferred)) : okO (.deferred d) := fun _ _ _ h => by cases h

theorem okO_rd (v : Value) : okO (.cells #[v] 112 (0, 0)) := fun _ _ _ h => by cases h; exact Or.inl rfl

theorem okO_int (v : Value) : okO (.cells #[v] 3 (0, 0)) := fun _ _ _ h => by cases h; exact Or.inr rfl

structure MvW (obs : List (Nat × Obj)) (w0 W : World) : Prop where
  be : Below w0.heap.size w0 W
  ob : ∀ p ∈ obs, W.heap[p.1]? = some p.2 ∧ okO p.2

theorem MvW.of {obs : List (Nat × Obj)} {w0 W W' : World} (h : MvW obs w0 W) (hb : Below W.heap.size W W') : MvW obs w0 W' := ⟨h.be.trans (hb.mono h.be.size), fun p hp => ⟨loop_below (h.ob p hp).1 hb, (h.ob p hp).2⟩⟩

theorem MvW.grown {obs : List (Nat × Obj)} {w0 W W' : World} {B : Nat} {T : TypeId} {C : Array Value} (h : MvW obs w0 W) (hg : W.grownBy W' (some B)) (hB : Blk W B T C) (h1 : T ≠ 112) (h2 : T ≠ 3) (hw : w0.heap.size ≤ B) : MvW obs w0 W' :=
  ⟨h.be.grown hg h.be.size (fun k e => by cases e; exact hw), fun p hp => ⟨by
    obtain ⟨hk, ho⟩ := h.ob p hp
    refine (hg.block p.1 (Array.getElem?_eq_some_iff.1 hk).1 ?_).trans hk
    intro e
    have e : p.1 = B := by simpa using e
    have q : W.heap[B]? = some (.cells C T (0, 0)) := hB
    rw [e, q] at hk
    injection hk with hk
    rcases ho _ _ _ hk.symm with r | r
    · exact h1 r
    · exact h2 r, (h.ob p hp).2⟩⟩

theorem MvW.put {obs : List (Nat × Obj)} {w0 W : World} {l : Nat} {o : Obj} (o' : Obj) (h : MvW obs w0 W) (hl : w0.heap.size ≤ l) (hk : W.heap[l]? = some o) (hno : ∀ p ∈ obs, p.1 ≠ l) : MvW obs w0 (W.putObj l o') :=
  ⟨h.be.trans (belowPut o' hl hk), fun p hp => ⟨(World.putObj_heap_other (hno p hp)).trans (h.ob p hp).1, (h.ob p hp).2⟩⟩

theorem MvW.cons {obs : List (Nat × Obj)} {w0 W : World} {k : Nat} {o : Obj} (h : MvW obs w0 W) (hk : W.heap[k]? = some o) (ho : okO o) : MvW ((k, o) :: obs) w0 W := ⟨h.be, fun p hp => by
  rcases List.mem_cons.1 hp with rfl | hp
  · exact ⟨hk, ho⟩
  · exact h.ob p hp⟩

theorem MvW.tail {p : Nat × Obj} {obs : List (Nat × Obj)} {w0 W : World} (h : MvW (p :: obs) w0 W) : MvW obs w0 W := ⟨h.be, fun q hq => h.ob q (List.mem_cons_of_mem _ hq)⟩

theorem MvW.head {k : Nat} {o : Obj} {obs : List (Nat × Obj)} {w0 W : World} (h : MvW ((k, o) :: obs) w0 W) : W.heap[k]? = some o := (h.ob (k, o) List.mem_cons_self).1

/-- The loop's record is another. -/
theorem MvW.turn {l : Nat} {r r' : Loop} {obs : List (Nat × Obj)} {w0 W : World} (h : MvW ((l, .loop r) :: obs) w0 W) (hl : w0.heap.size ≤ l) (hno : ∀ p ∈ obs, p.1 ≠ l) : MvW ((l, .loop r') :: obs) w0 (W.putObj l (.loop r')) :=
  (h.tail.put _ hl h.head hno).cons (World.putObj_heap_same (Array.getElem?_eq_some_iff.1 h.head).1) (okO_loop r')

theorem rd_blk {w : World} {g : Nat} {s : ByteArray} {off : Nat} {st : RSt} (h : RdT w g s off st) : ∃ C, Blk w g 160 C := by
  obtain ⟨f, hr, _⟩ := h
  exact ⟨_, hr⟩

theorem MvW.reads {obs : List (Nat × Obj)} {w0 W W' : World} {g : Nat} {s : ByteArray} {st : RSt} (h : MvW obs w0 W) (hr : RdT W g s 0 st) (hg : W.grownBy W' (some g)) (hw : w0.heap.size ≤ g) : MvW obs w0 W' := by
  obtain ⟨C, hB⟩ := rd_blk hr
  exact h.grown hg hB (by decide) (by decide) hw

theorem rdT_keepC {w w' : World} {g : Nat} {s : ByteArray} {off : Nat} {st : RSt} (h : RdT w g s off st) (hk : KeepC w w') : RdT w' g s off st := by
  obtain ⟨f, hr, hf⟩ := h
  refine ⟨f, hk.same _ _ _ _ hr, ?_⟩
  rcases hf with hf | ⟨he, q, hq, hf⟩
  · exact Or.inl hf
  · exact Or.inr ⟨he, q, hq, hk.same _ _ _ _ hf⟩

theorem OwnMh.keepC {w w' : World} {base : Nat} {v : Value} {l : List MvH} (h : OwnMh w base v l) (hk : KeepC w w') : OwnMh w' base v l := by
  rcases h with h | ⟨h1, g, cap, rfl, h2⟩
  · exact Or.inl h
  · exact Or.inr ⟨h1, g, cap, rfl, hk.owns h2⟩

theorem OwnIv.keepC {w w' : World} {base : Nat} {v : Value} {l : List Int} (h : OwnIv w base v l) (hk : KeepC w w') : OwnIv w' base v l := by
  rcases h with h | ⟨h1, g, cap, rfl, h2⟩
  · exact Or.inl h
  · exact Or.inr ⟨h1, g, cap, rfl, hk.owns h2⟩

/-- Attributes of one's own, each with its events. -/
structure OwnAs (w : World) (base : Nat) (v : Value) (hs : List MvH) : Prop where
  row : OwnMh w base v hs
  ev : ∀ h ∈ hs, OwnIv w base (.slice h.a h.x.ev.length h.c) h.x.ev

theorem OwnAs.nil (w : World) (base : Nat) : OwnAs w base (.slice none 0 0) [] := ⟨OwnMh.nil w base, by simp⟩

theorem OwnAs.keepC {w w' : World} {base : Nat} {v : Value} {hs : List MvH} (h : OwnAs w base v hs) (hk : KeepC w w') : OwnAs w' base v hs := ⟨h.row.keepC hk, fun x hx => (h.ev x hx).keepC hk⟩

theorem OwnAs.kept {w w' : World} {base : Nat} {v : Value} {hs : List MvH} (h : OwnAs w base v hs) (hb : Below w.heap.size w w') : OwnAs w' base v hs := h.keepC (KeepC.of hb)

theorem OwnAs.grown {w w' : World} {base : Nat} {v : Value} {hs : List MvH} {g : Nat} (h : OwnAs w base v hs) (hg : w.grownBy w' (some g)) (hlt : g < base) : OwnAs w' base v hs :=
  ⟨h.row.grown hg (fun q e => by cases e; exact hlt), fun x hx => (h.ev x hx).grown hg (fun q e => by cases e; exact hlt)⟩

theorem OwnAs.other {w w' : World} {base B : Nat} {v : Value} {hs : List MvH} {T : TypeId} {C : Array Value} (h : OwnAs w base v hs) (hB : Blk w B T C) (h1 : T ≠ 92) (h2 : T ≠ 3) (hg : w.grownBy w' (some B)) : OwnAs w' base v hs :=
  ⟨h.row.other hB h1 hg, fun x hx => (h.ev x hx).other hB h2 hg⟩

theorem OwnAs.mono {w : World} {base b : Nat} {v : Value} {hs : List MvH} (h : OwnAs w base v hs) (hb : b ≤ base) : OwnAs w b v hs := ⟨h.row.mono hb, fun x hx => (h.ev x hx).mono hb⟩

theorem mh_blk {w w' : World} {v : Value} {l : List MvH} {base B : Nat} {T : TypeId} {C : Array Value} (hO : OwnMh w base v l) (hg : w.grownBy w' v.ownBlock) (h : Blk w B T C) (hT : T ≠ 92) : Blk w' B T C := by
  rcases hO.blk with e | ⟨g, C2, e, _, hB⟩
  · rw [e] at hg
    exact h.grown hg (by simp)
  · rw [e] at hg
    refine h.grown hg ?_
    intro e2
    obtain rfl : B = g := by simpa using e2
    have h1 : w.heap[B]? = some (.cells C T (0, 0)) := h
    have h2 : w.heap[B]? = some (.cells C2 92 (0, 0)) := hB
    rw [h1] at h2
    injection h2 with h2
    injection h2 with _ h2
    exact hT h2

theorem below_of_none {w w' : World} (hg : w.grownBy w' none) : Below w.heap.size w w' := ⟨hg.os, hg.tape, hg.output, hg.size, fun k hk => hg.block k hk (by simp)⟩

theorem mh_rd {w w' : World} {v : Value} {l : List MvH} {base gr off : Nat} {s : ByteArray} {st : RSt} (hO : OwnMh w base v l) (hg : w.grownBy w' v.ownBlock) (h : RdT w gr s off st) : RdT w' gr s off st := by
  rcases hO.blk with e | ⟨g, C, e, _, hB⟩
  · rw [e] at hg
    exact h.below (below_of_none hg)
  · rw [e] at hg
    exact h.other hB (by decide) (by decide) hg

theorem mh_iv {w w' : World} {v u : Value} {l : List MvH} {m : List Int} {base B : Nat} (hO : OwnMh w base v l) (hg : w.grownBy w' v.ownBlock) (h : OwnIv w B u m) : OwnIv w' B u m := by
  rcases hO.blk with e | ⟨g, C, e, _, hB⟩
  · rw [e] at hg
    exact h.kept (below_of_none hg)
  · rw [e] at hg
    exact h.other hB (by decide) hg

theorem mh_W {w0 w w' : World} {v : Value} {l : List MvH} {base : Nat} {obs : List (Nat × Obj)} (hO : OwnMh w base v l) (hg : w.grownBy w' v.ownBlock) (h : MvW obs w0 w) (hb : w0.heap.size ≤ base) : MvW obs w0 w' := by
  rcases hO.blk with e | ⟨g, C, e, hge, hB⟩
  · rw [e] at hg
    exact h.of (below_of_none hg)
  · rw [e] at hg
    exact h.grown hg hB (by decide) (by decide) (by omega)

/-- In a round: one comes behind. -/
theorem appendR_mh {F : Fence} {n : Nat} {ops : Array Oper} {rest : List Oper} {o : Oper} {a : Act} {w : World} {Q : Exit → Act → World → Prop} {s x : Operand} {base G : Nat} {v : Value} {l : List MvH} (y : MvH) (hg : o.guard = none)
    (ho : o.op = .call { callee := .builtin .append, args := #[s, x], argTypes := #[69, 69] }) (hs : a.eval s = v) (hx : a.eval x = .slice (some ⟨G, 0, none⟩) 1 1)
    (hO : OwnMh w base v l) (hG : Blk w G 92 (mvC y)) (hlen : l.length ≤ 100000) (hbase : base ≤ w.heap.size)
    (h : ∀ v' w', OwnMh w' base v' (l ++ [y]) → w.grownBy w' v.ownBlock → wpListIn F n Tryd.prog ops Q rest (a.put o.dst v') w') : wpListIn F n Tryd.prog ops Q (o :: rest) a w := by
  obtain ⟨i0, hi, hz0, hz1, hz2⟩ := info_parts Tryd.mhParts
  have hnews : ∀ (j : Nat) u, (mvC y).toList[j]? = some u → w.cell? ((⟨G, 0, none⟩ : Addr).add j) = some u := fun j u hu => by
    rw [Addr.add_lit, Nat.zero_add]
    exact hG.cv j u (by simpa using hu)
  have hnb : ∀ {v' : Value} {w' : World} {k : Nat} {xs : List Value}, w'.ownsRow base 92 3 v' (k + 1) xs → ∃ g cap, v' = .slice (some ⟨g, 0, none⟩) (k + 1) cap := fun h => ownsRow_succ h
  rcases hO with ⟨rfl, rfl⟩ | ⟨hne, g, cap, rfl, hown⟩
  · refine wpListIn_append_own w hg s x _ ho base 92 i0 (.agg (mvC zMvH)) 3 40 Tryd.underlying69 hi hz0 hz1 hz2 rfl (by decide) (.slice none 0 0) 0 [] hs (World.ownsRow_nil w base _ 3) ⟨G, 0, none⟩ 1 1 (mvC y).toList hx rfl hnews (mvC_cells y) (by unfold maxLen; omega) (by decide) hbase ?_
    intro v' w' hown hgrow _
    obtain ⟨g, cap, rfl⟩ := hnb hown
    refine h _ _ (Or.inr ⟨by simp, g, cap, rfl, ?_⟩) hgrow
    rw [List.nil_append, mvR_one]
    exact hown
  · refine wpListIn_append_own w hg s x _ ho base 92 i0 (.agg (mvC zMvH)) 3 40 Tryd.underlying69 hi hz0 hz1 hz2 rfl (by decide) (.slice (some ⟨g, 0, none⟩) l.length cap) l.length (mvR l) hs hown ⟨G, 0, none⟩ 1 1 (mvC y).toList hx rfl hnews (mvC_cells y) (by unfold maxLen; omega) (by omega) hbase ?_
    intro v' w' hown2 hgrow _
    obtain ⟨g', cap', rfl⟩ := hnb hown2
    refine h _ _ (Or.inr ⟨by simp, g', cap', by rw [List.length_append]; rfl, ?_⟩) hgrow
    rw [mvR_snoc, List.length_append]
    exact hown2

theorem sliceR_mh {F : Fence} {n : Nat} {ops : Array Oper} {rest : List Oper} {o : Oper} {a : Act} {w : World} {Q : Exit → Act → World → Prop} {x : Operand} (y : MvH) (hw : Region.wanted o (yielded ops a.tmps) = true) (ho : o.op = .buildSlice 69 1 #[(0, x)]) (hx : a.eval x = .agg (mvC y))
    (h : ∀ w1, Blk w1 w.heap.size 92 (mvC y) → Below w.heap.size w w1 → wpListIn F n Tryd.prog ops Q rest (a.put o.dst (.slice (some ⟨w.heap.size, 0, none⟩) 1 1)) w1) : wpListIn F n Tryd.prog ops Q (o :: rest) a w := by
  obtain ⟨i0, hi, hz0, hz1, hz2⟩ := info_parts Tryd.mhParts
  refine sliceR 69 92 1 _ hw ho (mvC y) i0 (.agg (mvC zMvH)) Tryd.underlying69 hi hz0 (by rw [hz1]; decide) (by rw [hz1]; decide) (by rw [hz1]; simp only [List.map_toArray, List.map_cons, List.map_nil, hx]; exact fill_mh y) (h _ (Blk.new w _ _) ((Below.refl _ _).alloc (Nat.le_refl _) _))

/-- What is read, and what is wrong. -/
def MvR.recs : MvR → List Mv
  | .bad _ _ => []
  | .ok l => l

def MvR.er : MvR → Int
  | .bad e _ => e
  | .ok _ => 0

def MvR.pl : MvR → Int
  | .bad _ p => p
  | .ok _ => -1

theorem xs_snoc (hs : List MvH) (h : MvH) : xs (hs ++ [h]) = xs hs ++ [h.x] := by simp [xs]

end Go.Proofs.YtdjljnpbnhampaaDoor

namespace Go.Proofs.YtdjljnpbnhampaaDoor
open Go.RowKit
attribute [local go_sem ↓] Go.wp_at_zero Go.wp_at_succ
attribute [local go_sem] Oper.semAt_some
set_option linter.unusedSimpArgs false
set_option linter.unusedVariables false
set_option maxRecDepth 100000

/-- Between two messages, or in one that begins at m: the reader, the list in its box. -/
structure MvSt (S : ByteArray) (R : MvR) (g bl base : Nat) (mo : Option Nat) (st : RSt) (v : Value) (hs : List MvH) (W : World) : Prop where
  inv : MvI S.data.toList R mo st (xs hs)
  rd : RdT W g S 0 st
  box : Blk W bl 69 #[v]
  own : OwnAs W base v hs
  bs : base ≤ W.heap.size

theorem MvSt.keepC {S : ByteArray} {R : MvR} {g bl base : Nat} {mo : Option Nat} {st : RSt} {v : Value} {hs : List MvH} {W W' : World} (h : MvSt S R g bl base mo st v hs W) (hk : KeepC W W') : MvSt S R g bl base mo st v hs W' :=
  ⟨h.inv, rdT_keepC h.rd hk, hk.blk h.box, h.own.keepC hk, Nat.le_trans h.bs hk.size⟩

theorem MvSt.of {S : ByteArray} {R : MvR} {g bl base : Nat} {mo : Option Nat} {st : RSt} {v : Value} {hs : List MvH} {W W' : World} (h : MvSt S R g bl base mo st v hs W) (hb : Below W.heap.size W W') : MvSt S R g bl base mo st v hs W' := h.keepC (KeepC.of hb)

/-- The reader has read on. -/
theorem MvSt.reads {S : ByteArray} {R : MvR} {g bl base : Nat} {mo mo' : Option Nat} {st st' : RSt} {v : Value} {hs : List MvH} {W W' : World} (h : MvSt S R g bl base mo st v hs W) (hg : W.grownBy W' (some g)) (hr : RdT W' g S 0 st') (hlt : g < base) (hI : MvI S.data.toList R mo' st' (xs hs)) : MvSt S R g bl base mo' st' v hs W' := by
  obtain ⟨C, hB⟩ := rd_blk h.rd
  exact ⟨hI, hr, h.box.reads h.rd (by decide) hg, h.own.grown hg hlt, Nat.le_trans h.bs hg.size⟩

theorem at_end_mono {S : List UInt8} {st st' : RSt} (h : AtEnd S (nxA S st) st') : st'.2.1 ≠ 0 ∨ (st.2.1 = 0 ∧ st.1 ≤ st'.1) := by
  obtain ⟨_, ⟨q, hA, rfl⟩ | ⟨z, z1, _, _⟩⟩ := h
  · unfold nxA at hA
    by_cases c : st.2.1 ≠ 0
    · rw [if_pos c] at hA; cases hA
    · rw [if_neg c] at hA
      obtain ⟨_, _, hq⟩ := at_fin hA
      exact Or.inr ⟨by simpa using c, by show st.1 ≤ q; omega⟩
  · exact Or.inl z1

theorem mv_rdLeft {S : ByteArray} {g n : Nat} {st st' : RSt} {W W' : World} (h : RdT W g S 0 st) (h' : RdT W' g S 0 st') (h0 : st.2.1 = 0) (hn : st.1 ≤ n) (hlt : st'.2.1 ≠ 0 ∨ st.1 < st'.1) : rdLeft n W' g < rdLeft n W g := by
  obtain ⟨p, e, x⟩ := st
  obtain ⟨p', e', x'⟩ := st'
  obtain rfl : e = 0 := h0
  rw [rdLeft_ok h]
  have hn : p ≤ n := hn
  rcases hlt with q | q
  · rw [rdLeft_bad h' q]; omega
  · by_cases q2 : e' = 0
    · subst q2
      rw [rdLeft_ok h']
      have q : p < p' := q
      omega
    · rw [rdLeft_bad h' q2]; omega

/-- Between two attributes. -/
def MvJ (S : ByteArray) (R : MvR) (g bl base : Nat) (mo : Option Nat) (p : Nat) (obs : List (Nat × Obj)) (w0 : World) (st : RSt) (W : World) : Prop := ∃ v hs, MvSt S R g bl base mo st v hs W ∧ MvW obs w0 W ∧ (st.2.1 ≠ 0 ∨ p < st.1)

/-- Behind a round. -/
def MvNx (J : RSt → World → Prop) (n g : Nat) (W3 W' : World) : Prop := ∃ st, J st W' ∧ rdLeft n W' g < rdLeft n W3 g

theorem yield_nx {F : Fence} {m l : Nat} {args : Array Value} {W W3 : World} {J : RSt → World → Prop} {n g : Nat} (h : YieldAt F m Tryd.prog l args W fun e W' => e = .returned (.bool true) ∧ MvNx J n g W3 W') :
    YieldAt F m Tryd.prog l args W fun e W' => e = .returned (.bool true) ∧ ∃ st, J st W' ∧ rdLeft n W' g < rdLeft n W3 g := YieldAt.mono h (fun _ _ q => q)

/-- Between two messages. -/
def MvO (S : ByteArray) (R : MvR) (g bl base : Nat) (obs : List (Nat × Obj)) (w0 : World) (st : RSt) (W : World) : Prop := ∃ v hs, MvSt S R g bl base none st v hs W ∧ MvW obs w0 W

set_option maxHeartbeats 25600000 in
theorem mvRead_any (S : ByteArray) (w : World) (hS : S.size ≤ 100000) :
    Calls Tryd.prog 12 #[.string S] w fun e w' => ∃ v er hs, e = .returned (.tuple #[v, er]) ∧ xs hs = (rdMvs S.data.toList).recs ∧ OwnAs w' w.heap.size v hs ∧ ErrAs w' er (rdMvs S.data.toList).er (rdMvs S.data.toList).pl ∧ Below w.heap.size w w' := by
  have hls : S.data.toList.length = S.size := by simp
  have hb : S.size ≤ 281474976710656 := by omega
  obtain ⟨R, hR⟩ : ∃ R, rdMvs S.data.toList = R := ⟨_, rfl⟩
  have hI0 := mv_start S.data.toList
  rw [hR] at hI0 ⊢
  clear hR
  refine calls_of_marks Tryd.func12 rfl ?_
  simp only [Tryd.ntmps12, List.size_toArray, List.length_cons, List.length_nil, Nat.reduceAdd, Nat.reduceSub, Array.replicate_succ, Array.replicate_zero, List.push_toArray, List.append_toArray, List.nil_append, List.cons_append]
  go_wp2_with fail
  refine (new_t S 0 _).mono ?_
  rintro e w1 ⟨rfl, HR1, b1⟩
  obtain ⟨g, hg⟩ : ∃ g, w.heap.size = g := ⟨_, rfl⟩
  rw [hg] at HR1 b1
  have hg1 := HR1.lt
  have HX3 := Blk.new w1 112 #[.pointer (some ⟨g, 0, none⟩)]
  have b3 : Below w1.heap.size w1 (w1.alloc (.cells #[.pointer (some ⟨g, 0, none⟩)] 112)) := (Below.refl _ _).alloc (Nat.le_refl _) _
  have HR3 := HR1.below b3
  have hgb : g < w1.heap.size := hg1
  obtain ⟨base, hbase⟩ : ∃ base, w1.heap.size = base := ⟨_, rfl⟩
  rw [hbase] at HX3 b3 hgb
  have B3 : Below g w (w1.alloc (.cells #[.pointer (some ⟨g, 0, none⟩)] 112)) := b1.trans (b3.mono (Nat.le_of_lt hgb))
  have hs3 : base ≤ (w1.alloc (.cells #[.pointer (some ⟨g, 0, none⟩)] 112)).heap.size := by rw [World.size_alloc, hbase]; omega
  go_upto_region 2 with (fail)
  generalize w1.alloc (.cells #[.pointer (some ⟨g, 0, none⟩)] 112) = w3 at *
  have c3 := HX3.cv 0 (.pointer (some ⟨g, 0, none⟩)) rfl
  have HEX := Lib.hid (exp_t ⟨#[0]⟩ (by decide) (0, 0, -1) w3 HR3 (Nat.zero_le _) (by omega))
  go_wp2_with fail
  refine HEX.out.mono ?_
  rintro e w4 ⟨rfl, HR4, g4⟩
  have HR4 : RdT w4 g S 0 (exS S.data.toList (0, 0, -1) [0]) := HR4
  have HX4 := HX3.reads HR3 (by decide) g4
  have B4 : Below g w w4 := grown_belowA B3 g4 (by omega) (Nat.le_refl _)
  have hs4 : base ≤ w4.heap.size := Nat.le_trans hs3 g4.size
  generalize exS S.data.toList (0, 0, -1) [0] = st0 at *
  have hBL := Blk.new w4 69 #[.slice none 0 0]
  have b5 : Below w4.heap.size w4 (w4.alloc (.cells #[.slice none 0 0] 69)) := (Below.refl _ _).alloc (Nat.le_refl _) _
  have hs5 : (w4.alloc (.cells #[.slice none 0 0] 69)).heap.size = w4.heap.size + 1 := by simp
  have HX5 := HX4.kept b5
  have HR5 := HR4.below b5
  have B5 := B4.trans (b5.mono (by omega))
  have hbr4 := HX4.lt
  clear HEX HR3 HX3 b3 B3 c3 g4 HX4 HR4 B4 HR1 b1 hg1
  go_upto_region 4 with (fail)
  obtain ⟨bl, hbl⟩ : ∃ bl, w4.heap.size = bl := ⟨_, rfl⟩
  rw [hbl] at hBL hs5 hbr4 hs4
  have hlt5 : bl < (w4.alloc (.cells #[.slice none 0 0] 69)).heap.size := by rw [hs5]; omega
  clear hs5
  generalize w4.alloc (.cells #[.slice none 0 0] 69) = w5 at *
  have c5 := HX5.cv 0 (.pointer (some ⟨g, 0, none⟩)) rfl
  have HMS := Lib.hid (messages_any g w5)
  go_wp2_with fail
  refine HMS.out.mono ?_
  rintro e w6 ⟨rfl, HM6, b6, hs6⟩
  have hlt6 : w5.heap.size < w6.heap.size := by rw [hs6]; omega
  clear hs6
  have HX6 := HX5.kept b6
  have HR6 := HR5.below b6
  have HL6 := hBL.kept b6
  have B6 := B5.trans (b6.mono (by omega))
  clear HMS HX5 HR5 hBL B5 b6 c5 b5
  go_wp2_with fail
  obtain ⟨b1, hb1⟩ : ∃ b1, w5.heap.size = b1 := ⟨_, rfl⟩
  rw [hb1] at HM6 hlt5 hlt6 ⊢
  refine rf_outer rfl (enters_of Tryd.func87 (by kernel_rfl) rfl) ?_
  intro fn RL W hRL HL HD bW hW
  obtain ⟨D, hD⟩ : ∃ D, w6.heap.size = D := ⟨_, rfl⟩
  have hsW : w6.heap.size ≤ W.heap.size := bW.size
  have hMW : MvW [(D + 1, .loop (RL .ready)), (base, .cells #[.pointer (some ⟨g, 0, none⟩)] 112 (0, 0)), (b1, .cells #[.pointer (some ⟨g, 0, none⟩)] 112 (0, 0)), (D, .deferred (some []))] w W := by
    have q0 : MvW [] w W := ⟨by rw [hg]; exact B6.trans (bW.mono (by omega)), by simp⟩
    rw [hD] at HL HD
    exact (((q0.cons HD (okO_mark _)).cons (HM6.kept bW) (okO_rd _)).cons (HX6.kept bW) (okO_rd _)).cons HL (okO_loop _)
  have hST : MvSt S R g bl base none st0 (.slice none 0 0) [] W := ⟨hI0, HR6.below bW, HL6.kept bW, OwnAs.nil _ _, by omega⟩
  have hno : ∀ p ∈ [(base, Obj.cells #[.pointer (some ⟨g, 0, none⟩)] 112 (0, 0)), (b1, .cells #[.pointer (some ⟨g, 0, none⟩)] 112 (0, 0)), (D, .deferred (some []))], p.1 ≠ D + 1 := by
    intro p hp
    simp only [List.mem_cons, List.not_mem_nil, or_false] at hp
    rcases hp with rfl | rfl | rfl
    · show base ≠ D + 1; rw [hD] at hlt6; omega
    · show b1 ≠ D + 1; rw [hD] at hlt6; omega
    · show D ≠ D + 1; omega
  have hbD : base < D ∧ bl < D ∧ b1 < D := by rw [hD] at hlt6; omega
  rw [hD]
  clear HL HD bW HM6 HX6 HR6 HL6 hI0 B6
  have hgw : w.heap.size ≤ g := Nat.le_of_eq hg
  rw [hD] at hlt6
  clear hb1 hD hW hsW
  have HIT : Calls Tryd.prog 87 #[.func (.yield (D + 1)) #[] #[], .pointer (some ⟨b1, 0, none⟩)] W fun e W2 => (∃ v, e = .returned v) ∧ ∃ z v hs, MvEnd R (zrR S.data.toList 0 z) (xs hs) ∧ z.1 ≤ S.size ∧ RdT W2 g S 0 z ∧ Blk W2 bl 69 #[v] ∧ OwnAs W2 base v hs ∧
      MvW [(D + 1, .loop (RL .ready)), (base, .cells #[.pointer (some ⟨g, 0, none⟩)] 112 (0, 0)), (b1, .cells #[.pointer (some ⟨g, 0, none⟩)] 112 (0, 0)), (D, .deferred (some []))] w W2 := by
    have HI := messages_it (l := D + 1) (b1 := b1) hb (MvO S R g bl base [(D + 1, .loop (RL .ready)), (base, .cells #[.pointer (some ⟨g, 0, none⟩)] 112 (0, 0)), (b1, .cells #[.pointer (some ⟨g, 0, none⟩)] 112 (0, 0)), (D, .deferred (some []))] w)
      (fun st W ⟨v, hs, h1, h2⟩ => ⟨h1.rd, by rw [← hls]; exact h1.inv.1, h2.tail.tail.head⟩) ?body st0 W ⟨_, _, hST, hMW⟩
    case body =>
      intro st W0 W ⟨v, hs, h1, h2⟩ hmv hrW gW
      obtain ⟨hI2, hs0, hlt⟩ := (head_round _ _ _ _ h1.inv).1 hmv
      have hst1 : st.1 ≤ S.size := by rw [← hls]; exact h1.inv.1
      have HMS := fun (W' : World) (st' : RSt) (h' : RdT W' g S 0 st') (hq : st'.2.1 ≠ 0 ∨ st.1 < st'.1) => mv_rdLeft (n := S.size) h1.rd h' hs0 hst1 hq
      have h3 : MvSt S R g bl base (some st.1) (mhS S.data.toList st) v hs W := h1.reads gW hrW hgb hI2
      have h4 := h2.reads h1.rd gW hgw
      have hMS := Lib.hid HMS
      have hgW := gW.size
      clear h1 h2 hmv gW hrW hI2 HMS
      generalize mhS S.data.toList st = st2 at *
      generalize st.1 = p at *
      refine yield_nx (yield_of hRL h4.head rfl ?_)
      have hBa := Blk.new W 3 #[.int .i64 (p : Nat)]
      have bA : Below W.heap.size W (W.alloc (.cells #[.int .i64 (p : Nat)] 3)) := (Below.refl _ _).alloc (Nat.le_refl _) _
      have h5 := (h4.of bA).tail.cons hBa (okO_int _)
      have h5H := Lib.hid (h4.of bA).head
      have h3a := h3.of bA
      obtain ⟨ba, hba⟩ : ∃ ba, W.heap.size = ba := ⟨_, rfl⟩
      have hDba : D + 1 < ba := by rw [← hba]; exact (Array.getElem?_eq_some_iff.1 h4.head).1
      rw [hba] at h5
      gi_wp2
      generalize hWa : W.alloc (.cells #[.int .i64 (p : Nat)] 3) = Wa at *
      have h5L := h5H.out
      clear h5H
      refine ⟨h5L, ?_⟩
      have h6 := (h5.cons h5L (okO_loop _)).turn (r' := RL .busy) (by rw [hg]; omega) (by
        intro q hq
        rcases List.mem_cons.1 hq with rfl | hq
        · show ba ≠ D + 1; omega
        · exact hno q hq)
      have h3b := h3a.keepC (KeepC.putLoop (.loop (RL .busy)) h5L)
      have hWs : W.heap.size < (Wa.putObj (D + 1) (.loop (RL .busy))).heap.size := by rw [World.putObj_size, ← hWa, World.size_alloc]; omega
      rw [hba] at hWs
      clear hWa hBa bA h5 h5L h3a h3 h4
      generalize Wa.putObj (D + 1) (.loop (RL .busy)) = Wb at *
      have cB := (show Blk Wb base 112 #[.pointer (some ⟨g, 0, none⟩)] from h6.tail.tail.head).cv 0 (.pointer (some ⟨g, 0, none⟩)) rfl
      have HAT := Lib.hid (attrs_any g Wb)
      gi_wp2_with (refine ⟨trivial, rfl, ?_⟩; gi_at_call 60; refine (CallsIn.inRound (D + 1) (callsIn_wide.2 HAT.out)).mono ?_; rintro e Wc ⟨rfl, HB2, bC, hsC⟩)
      have h7 := h6.of bC
      have h3c := h3b.of bC
      obtain ⟨b2, hb2⟩ : ∃ b2, Wb.heap.size = b2 := ⟨_, rfl⟩
      rw [hb2] at HB2 hWs ⊢
      have hbc : b2 < Wc.heap.size := by rw [hsC, hb2]; omega
      clear hsC cB HAT bC h6 h3b
      refine rf_inner h7.head rfl (enters_of Tryd.func89 (by kernel_rfl) rfl) ?_
      intro fn2 RL2 W2 hRL2 HL2 bW2 hW2
      obtain ⟨L2, hL2⟩ : ∃ L2, Wc.heap.size = L2 := ⟨_, rfl⟩
      rw [hL2] at HL2 hbc ⊢
      have h8 : MvW (((L2, .loop (RL2 .ready)) :: (ba, .cells #[.int .i64 (p : Nat)] 3 (0, 0)) :: (b2, .cells #[.pointer (some ⟨g, 0, none⟩)] 112 (0, 0)) :: [(D + 1, .loop (RL .busy)), (base, .cells #[.pointer (some ⟨g, 0, none⟩)] 112 (0, 0)), (b1, .cells #[.pointer (some ⟨g, 0, none⟩)] 112 (0, 0)), (D, .deferred (some []))])) w W2 := by
        have q := ((h7.of bW2).tail.tail.cons ((h7.of bW2).head) (okO_loop _))
        exact ((q.cons (HB2.kept bW2) (okO_rd _)).cons ((h7.of bW2).tail.head) (okO_int _)).cons HL2 (okO_loop _)
      have h3d := h3c.of bW2
      have hno2 : ∀ q ∈ ((ba, Obj.cells #[.int .i64 (p : Nat)] 3 (0, 0)) :: (b2, .cells #[.pointer (some ⟨g, 0, none⟩)] 112 (0, 0)) :: [(D + 1, .loop (RL .busy)), (base, .cells #[.pointer (some ⟨g, 0, none⟩)] 112 (0, 0)), (b1, .cells #[.pointer (some ⟨g, 0, none⟩)] 112 (0, 0)), (D, .deferred (some []))]), q.1 ≠ L2 := by
        intro q hq
        simp only [List.mem_cons, List.not_mem_nil, or_false] at hq
        rcases hq with rfl | rfl | rfl | rfl | rfl | rfl
        · show ba ≠ L2; omega
        · show b2 ≠ L2; omega
        · show D + 1 ≠ L2; omega
        · show base ≠ L2; omega
        · show b1 ≠ L2; omega
        · show D ≠ L2; omega
      clear HL2 bW2 h7 h3c HB2 hL2 hW2 hb2 hba
      have HIN : Calls Tryd.prog 89 #[.func (.yield L2) #[] #[], .pointer (some ⟨b2, 0, none⟩)] W2 fun e W3 => (∃ v, e = .returned v) ∧ ∃ st3 v hs, MvSt S R g bl base none st3 v hs W3 ∧ MvW (((L2, .loop (RL2 .ready)) :: (ba, .cells #[.int .i64 (p : Nat)] 3 (0, 0)) :: (b2, .cells #[.pointer (some ⟨g, 0, none⟩)] 112 (0, 0)) :: [(D + 1, .loop (RL .busy)), (base, .cells #[.pointer (some ⟨g, 0, none⟩)] 112 (0, 0)), (b1, .cells #[.pointer (some ⟨g, 0, none⟩)] 112 (0, 0)), (D, .deferred (some []))])) w W3 ∧ (st3.2.1 ≠ 0 ∨ p < st3.1) := by
        refine attrs_it (l := L2) (b1 := b2) hb (MvJ S R g bl base (some p) p (((L2, .loop (RL2 .ready)) :: (ba, .cells #[.int .i64 (p : Nat)] 3 (0, 0)) :: (b2, .cells #[.pointer (some ⟨g, 0, none⟩)] 112 (0, 0)) :: [(D + 1, .loop (RL .busy)), (base, .cells #[.pointer (some ⟨g, 0, none⟩)] 112 (0, 0)), (b1, .cells #[.pointer (some ⟨g, 0, none⟩)] 112 (0, 0)), (D, .deferred (some []))])) w) (fun W3 => ∃ st3 v hs, MvSt S R g bl base none st3 v hs W3 ∧ MvW (((L2, .loop (RL2 .ready)) :: (ba, .cells #[.int .i64 (p : Nat)] 3 (0, 0)) :: (b2, .cells #[.pointer (some ⟨g, 0, none⟩)] 112 (0, 0)) :: [(D + 1, .loop (RL .busy)), (base, .cells #[.pointer (some ⟨g, 0, none⟩)] 112 (0, 0)), (b1, .cells #[.pointer (some ⟨g, 0, none⟩)] 112 (0, 0)), (D, .deferred (some []))])) w W3 ∧ (st3.2.1 ≠ 0 ∨ p < st3.1))
          (fun st W ⟨v, hs, k1, k2, k3⟩ => ⟨k1.rd, k2.tail.tail.head⟩) ?_ st2 W2 ⟨v, hs, h3d, h8, Or.inr hlt⟩
        clear h3d h8
        intro st3 W3 ⟨v, hs, k1, k2, k3⟩
        obtain ⟨a1, a2, a3⟩ := attr_round _ _ _ _ _ k1.inv
        refine ⟨_, a1, ?_, ?_⟩
        · intro hd st' W4 hO h0 HOv hr4 g4
          obtain ⟨hI', hs0', hlt', hl40⟩ := a3 hd.x st' hO h0
          have hst3 : st3.1 ≤ S.size := by rw [← hls]; exact k1.inv.1
          have HMS := Lib.hid (fun (W' : World) (st'' : RSt) (h' : RdT W' g S 0 st'') (hq : st''.2.1 ≠ 0 ∨ st3.1 < st''.1) => mv_rdLeft (n := S.size) k1.rd h' hs0' hst3 hq)
          have hprog : Hid (p < st3.1) := by
            rcases k3 with q | q
            · exact absurd hs0' q
            · exact q
          have box4 := k1.box.reads k1.rd (by decide) g4
          have own4 := k1.own.grown g4 hgb
          have hev4 := HOv.mono k1.bs
          have k6 := k2.reads k1.rd g4 hgw
          have hb4 : base ≤ W4.heap.size := Nat.le_trans k1.bs g4.size
          have hxl : (xs hs).length = hs.length := xs_len hs
          have hI2' := Lib.hid hI'
          have hlt2 := Lib.hid hlt'
          have hl41 : hs.length ≤ 40 := by rw [← hxl]; exact hl40
          clear a1 a2 a3 k1 k2 k3 hO HOv g4 hI' hlt' hs0' hl40 hst3
          refine yield_nx (yield_of hRL2 k6.head rfl ?_)
          have HZ := Blk.new W4 92 (mvC zMvH)
          have b45 : Below W4.heap.size W4 (W4.alloc (.cells (mvC zMvH) 92)) := (Below.refl _ _).alloc (Nat.le_refl _) _
          gi_wp2_with (refine storeR (k := 0) 92 (.agg (mvC hd)) (mvC hd) (by rfl) rfl rfl rfl HZ (by kernel_rfl) (show (3 : Nat) ≤ 3 from Nat.le_refl 3) (by rfl) (st_whole _ _ rfl) ?_; intro W5 HA5 b5 g5)
          have b46 := b45.trans b5
          have k7 := k6.of b46
          have box5 := box4.kept b46
          have own5 := own4.kept b46
          have hev5 := hev4.kept b46
          have hr5 := hr4.below b46
          have hb5 : base ≤ W5.heap.size := Nat.le_trans hb4 b46.size
          refine ⟨k7.head, ?_⟩
          have kc := KeepC.putLoop (.loop (RL2 .busy)) k7.head
          have k8 := k7.turn (r' := RL2 .busy) (by omega) hno2
          have box6 := kc.blk box5
          have own6 := own5.keepC kc
          have hev6 := hev5.keepC kc
          have hr6 := rdT_keepC hr5 kc
          have HA6 := kc.blk HA5
          have hb6 : base ≤ (W5.putObj L2 (.loop (RL2 .busy))).heap.size := Nat.le_trans hb5 kc.size
          clear HZ b45 b5 g5 b46 k6 k7 box4 own4 hev4 hr4 box5 own5 hev5 hr5 HA5 kc hb4 hb5
          generalize W5.putObj L2 (.loop (RL2 .busy)) = W6 at *
          generalize W4.heap.size = bt at *
          have c5 := box6.cv 0 v rfl
          obtain ⟨hs2, hhs2⟩ : ∃ hs2 : List MvH, hs ++ [hd] = hs2 := ⟨_, rfl⟩
          have HHS := Lib.hid hhs2
          have hx2 : xs hs ++ [hd.x] = xs hs2 := by rw [← hhs2, xs_snoc]
          rw [hx2, xs_len] at hI2'
          clear hhs2 hx2
          by_cases hc : 40 < hs2.length
          · have d40 : decide ((40 : Int) < (hs2.length : Int)) = true := decide_eq_true (by omega)
            have hI9 : Hid (MvI S.data.toList R (some p) (flR st' 4 (p : Nat)) (xs hs2)) := by
              have q := hI2'.out
              unfold lmS at q
              rw [if_pos hc] at q
              exact q
            clear hI2' hc
            gi_wp2_with (first
              | (refine loadR (k := 0) 92 (mvC hd) (by rfl) rfl rfl HA6 (by kernel_rfl) (by kernel_rfl) rfl ?_)
              | (refine sliceR_mh hd (by rfl) rfl rfl ?_; intro W7 HG7 b7; have own7 := own6.kept b7; have hev7 := hev6.kept b7; have hr7 := hr6.below b7; have box7 := box6.kept b7; have k9 := k8.of b7; have hb7 : base ≤ W7.heap.size := Nat.le_trans hb6 b7.size)
              | (refine appendR_mh hd rfl rfl rfl rfl own7.row HG7 (by omega) hb7 ?_; intro v' W8 HO8 g8; rw [HHS.out] at HO8; obtain ⟨a8, c8, rfl, hin8⟩ := HO8.inL; have box8 := mh_blk own7.row g8 box7 (by decide); have hr8 := mh_rd own7.row g8 hr7; have hev8 := mh_iv own7.row g8 hev7; have evs8 := fun x hx => mh_iv own7.row g8 (own7.ev x hx); have k10 := mh_W own7.row g8 k9 (by omega); have hb8 : base ≤ W8.heap.size := Nat.le_trans hb7 g8.size)
              | (refine storeR (k := 0) 69 (.slice a8 hs2.length c8) #[.slice a8 hs2.length c8] (by rfl) rfl rfl rfl box8 (by kernel_rfl) (by exact Nat.le_refl 1) rfl rfl ?_; intro W9 box9 b9 g9; have hr9 := hr8.other box8 (by decide) (by decide) g9; have own9 : OwnAs W9 base (.slice a8 hs2.length c8) hs2 := OwnAs.other ⟨HO8, fun x hx => (List.mem_append.1 (by rw [HHS.out]; exact hx)).elim (fun q => evs8 x q) (fun q => by rw [List.mem_singleton.1 q]; exact hev8)⟩ box8 (by decide) (by decide) g9; have k11 := k10.grown g9 box8 (by decide) (by decide) (by omega); have c9 := box9.cv 0 (.slice a8 hs2.length c8) rfl; have cb9 := (show Blk W9 base 112 #[.pointer (some ⟨g, 0, none⟩)] from k11.tail.tail.tail.tail.head).cv 0 (.pointer (some ⟨g, 0, none⟩)) rfl; have ca9 := (show Blk W9 ba 3 #[.int .i64 (p : Nat)] from k11.tail.head).cv 0 (.int .i64 (p : Nat)) rfl; have hb9 : base ≤ W9.heap.size := Nat.le_trans hb8 g9.size)
              | (refine ⟨trivial, rfl, ?_⟩; gi_at_call 61; refine (CallsIn.inRound L2 (callsIn_wide.2 (fail_t st' 4 p (by decide) _ hr9))).mono ?_; rintro e W10 ⟨rfl, hr10, g10⟩))
            have k12 := k11.reads hr9 g10 hgw
            have st12 : MvSt S R g bl base (some p) (flR st' 4 (p : Nat)) (.slice a8 hs2.length c8) hs2 W10 := ⟨hI9.out, hr10, box9.reads hr9 (by decide) g10, own9.grown g10 hgb, Nat.le_trans hb9 g10.size⟩
            have kc := KeepC.putLoop (.loop (RL2 .ready)) k12.head
            exact ⟨k12.head, rfl, _, ⟨_, hs2, st12.keepC kc, k12.turn (by omega) hno2, Or.inl (flR_ne st' 4 _ (by decide))⟩, HMS.out _ _ (rdT_keepC hr10 kc) (Or.inl (flR_ne st' 4 _ (by decide)))⟩
          · have d40 : decide ((40 : Int) < (hs2.length : Int)) = false := decide_eq_false (by omega)
            have hI9 : Hid (MvI S.data.toList R (some p) st' (xs hs2)) := by
              have q := hI2'.out
              unfold lmS at q
              rw [if_neg hc] at q
              exact q
            clear hI2' hc
            gi_wp2_with (first
              | (refine loadR (k := 0) 92 (mvC hd) (by rfl) rfl rfl HA6 (by kernel_rfl) (by kernel_rfl) rfl ?_)
              | (refine sliceR_mh hd (by rfl) rfl rfl ?_; intro W7 HG7 b7; have own7 := own6.kept b7; have hev7 := hev6.kept b7; have hr7 := hr6.below b7; have box7 := box6.kept b7; have k9 := k8.of b7; have hb7 : base ≤ W7.heap.size := Nat.le_trans hb6 b7.size)
              | (refine appendR_mh hd rfl rfl rfl rfl own7.row HG7 (by omega) hb7 ?_; intro v' W8 HO8 g8; rw [HHS.out] at HO8; obtain ⟨a8, c8, rfl, hin8⟩ := HO8.inL; have box8 := mh_blk own7.row g8 box7 (by decide); have hr8 := mh_rd own7.row g8 hr7; have hev8 := mh_iv own7.row g8 hev7; have evs8 := fun x hx => mh_iv own7.row g8 (own7.ev x hx); have k10 := mh_W own7.row g8 k9 (by omega); have hb8 : base ≤ W8.heap.size := Nat.le_trans hb7 g8.size)
              | (refine storeR (k := 0) 69 (.slice a8 hs2.length c8) #[.slice a8 hs2.length c8] (by rfl) rfl rfl rfl box8 (by kernel_rfl) (by exact Nat.le_refl 1) rfl rfl ?_; intro W9 box9 b9 g9; have hr9 := hr8.other box8 (by decide) (by decide) g9; have own9 : OwnAs W9 base (.slice a8 hs2.length c8) hs2 := OwnAs.other ⟨HO8, fun x hx => (List.mem_append.1 (by rw [HHS.out]; exact hx)).elim (fun q => evs8 x q) (fun q => by rw [List.mem_singleton.1 q]; exact hev8)⟩ box8 (by decide) (by decide) g9; have k11 := k10.grown g9 box8 (by decide) (by decide) (by omega); have c9 := box9.cv 0 (.slice a8 hs2.length c8) rfl; have cb9 := (show Blk W9 base 112 #[.pointer (some ⟨g, 0, none⟩)] from k11.tail.tail.tail.tail.head).cv 0 (.pointer (some ⟨g, 0, none⟩)) rfl; have ca9 := (show Blk W9 ba 3 #[.int .i64 (p : Nat)] from k11.tail.head).cv 0 (.int .i64 (p : Nat)) rfl; have hb9 : base ≤ W9.heap.size := Nat.le_trans hb8 g9.size))
            have st12 : MvSt S R g bl base (some p) st' (.slice a8 hs2.length c8) hs2 W9 := ⟨hI9.out, hr9, box9, own9, hb9⟩
            have kc := KeepC.putLoop (.loop (RL2 .ready)) k11.head
            exact ⟨k11.head, rfl, _, ⟨_, hs2, st12.keepC kc, k11.turn (by omega) hno2, Or.inr (Nat.lt_trans hprog.out hlt2.out)⟩, HMS.out _ _ (rdT_keepC hr9 kc) (Or.inr hlt2.out)⟩
        · intro st' W4 hE hr4 g4
          refine ⟨st', v, hs, k1.reads g4 hr4 hgb (a2 st' hE), k2.reads k1.rd g4 hgw, ?_⟩
          rcases at_end_mono hE with q | ⟨q1, q2⟩
          · exact Or.inl q
          · rcases k3 with q | q
            · exact absurd q1 q
            · exact Or.inr (by omega)
      refine HIN.mono ?_
      rintro e W3 ⟨hv3, st3, v3, hs3, k1, k2, k3⟩
      refine ⟨hv3, k2.head, ?_⟩
      have kcX := KeepC.putLoop (.loop (RL2 .exhausted)) k2.head
      have kX := k2.turn (r' := RL2 .exhausted) (by omega) hno2
      have k1X := k1.keepC kcX
      generalize W3.putObj L2 (.loop (RL2 .exhausted)) = W4 at *
      have kY := kX.tail.tail.tail
      have kcY := KeepC.putLoop (.loop (RL .ready)) kY.head
      exact ⟨kY.head, rfl, st3, ⟨v3, hs3, k1X.keepC kcY, kY.turn (by omega) hno⟩, hMS.out _ _ (rdT_keepC k1X.rd kcY) k3⟩
    refine HI.mono ?_
    rintro e W2 ⟨hv, st, W0, ⟨v, hs, h1, h2⟩, hmv, hr2, hg2⟩
    have hE := (head_round _ _ _ _ h1.inv).2 hmv
    obtain ⟨C, hB⟩ := rd_blk h1.rd
    refine ⟨hv, mhS S.data.toList st, v, hs, hE, by rw [← hls]; exact mhS_le _ _ h1.inv.1, hr2, h1.box.reads h1.rd (by decide) hg2, h1.own.grown hg2 hgb, h2.reads h1.rd hg2 (by omega)⟩
  refine HIT.mono ?_
  rintro e W2 ⟨hv, z, v, hs, hE, hz, HR2, HL2, HO2, HW2⟩
  refine ⟨hv, HW2.head, ?_⟩
  have kc : KeepC W2 (W2.putObj (D + 1) (.loop (RL .exhausted))) := KeepC.putLoop _ HW2.head
  have HR7 := rdT_keepC HR2 kc
  have HL7 := kc.blk HL2
  have HO7 := HO2.keepC kc
  have HW7 := HW2.turn (r' := RL .exhausted) (by rw [hg]; omega) hno
  generalize W2.putObj (D + 1) (.loop (RL .exhausted)) = w7 at *
  clear HIT hST hMW HR2 HL2 HO2 HW2 kc hRL hno
  have c4 := (show Blk w7 base 112 #[.pointer (some ⟨g, 0, none⟩)] from HW7.tail.head).cv 0 (.pointer (some ⟨g, 0, none⟩)) rfl
  have HZ := Lib.hid (zeros_t z w7 HR7 hz (by omega))
  rcases hE with ⟨hz1, hRo⟩ | ⟨hz1, hne, x, hx, hRb⟩
  · rw [hz1] at HZ
    subst hRo
    clear hz1
    go_wp2_with fail
    refine HZ.out.mono ?_
    rintro e w8 ⟨rfl, HR8, g8⟩
    have HL8 := HL7.reads HR7 (by decide) g8
    have HO8 := HO7.grown g8 hgb
    have HW8 := HW7.reads HR7 g8 hgw
    have c8 := HL8.cv 0 v rfl
    have HD8 : w8.heap[D]? = some (.deferred (some [])) := HW8.tail.tail.tail.head
    clear HZ HR7 HL7 HO7 HW7 c4 g8 HR8
    go_wp2
    have kc := KeepC.putMark (.deferred none) HD8
    exact ret_marks HD8 (results_tmp2 rfl _ _ _) ⟨v, _, hs, rfl, rfl, (HO8.keepC kc).mono (by omega), Or.inl ⟨rfl, rfl, rfl⟩, HW8.be.trans (belowPut _ (by omega) HD8)⟩
  · rw [hz1] at HZ
    subst hRb
    clear hz1
    go_wp2_with fail
    refine HZ.out.mono ?_
    rintro e w8 ⟨rfl, HR8, g8⟩
    have HW8 := HW7.reads HR7 g8 hgw
    have c8 := (show Blk w8 base 112 #[.pointer (some ⟨g, 0, none⟩)] from HW8.tail.head).cv 0 (.pointer (some ⟨g, 0, none⟩)) rfl
    have HER := Lib.hid (err_t _ w8 HR8 hne)
    clear HZ HR7 HL7 HO7 HW7 c4 g8 HR8
    go_wp2_with fail
    refine HER.out.mono ?_
    rintro e w9 ⟨rfl, hF9, b9⟩
    have HW9 := HW8.of b9
    have HD9 : w9.heap[D]? = some (.deferred (some [])) := HW9.tail.tail.tail.head
    rw [hx] at hF9
    clear HER HW8 c8 b9
    go_wp2
    have kc := KeepC.putMark (.deferred none) HD9
    exact ret_marks HD9 (results_tmp2 rfl _ _ _) ⟨_, _, [], rfl, rfl, OwnAs.nil _ _, Or.inr ⟨hne, _, rfl, kc.same _ _ _ _ hF9⟩, HW9.be.trans (belowPut _ (by omega) HD9)⟩

end Go.Proofs.YtdjljnpbnhampaaDoor

namespace Go.Proofs.YtdjljnpbnhampaaDoor
open Go.RowKit
attribute [local go_sem ↓] Go.wp_at_zero Go.wp_at_succ
set_option linter.unusedSimpArgs false
set_option linter.unusedVariables false
set_option maxRecDepth 100000

theorem bel_drewN (w : World) (q : Nat) : Below w.heap.size w (w.drewN q) := ⟨rfl, rfl, rfl, Nat.le_refl _, fun _ _ => rfl⟩

theorem ivIn_cells {w : World} {b o : Nat} {l : List Int} (h : IvAt w b o l) : ∀ j, j < l.length → w.cell? ⟨b, o + j, none⟩ = some (.int .i64 (l.getD j 0)) := fun j hj => by
  have e := h j hj 0 (.int .i64 l[j]) rfl
  rw [Nat.mul_one, Nat.add_zero] at e
  rw [e, List.getD_eq_getElem?_getD, List.getElem?_eq_getElem hj]
  rfl

theorem intEq_any (a1 a2 : Option Addr) (c1 c2 : Nat) (l1 l2 : List Int) (w : World) (h1 : IvIn w a1 l1) (h2 : IvIn w a2 l2) (m1 : l1.length ≤ maxLen) (m2 : l2.length ≤ maxLen) :
    Calls Tryd.prog 86 #[.slice a1 l1.length c1, .slice a2 l2.length c2] w fun e w' => e = .returned (.bool (decide (l1 = l2))) ∧ Below w.heap.size w w' := by
  have k1 : l1.length ≤ 9223372036854775807 := m1
  have k2 : l2.length ≤ 9223372036854775807 := m2
  by_cases hl : l1.length = l2.length
  · by_cases h0 : l1 = []
    · subst h0
      have h20 : l2 = [] := List.eq_nil_of_length_eq_zero hl.symm
      subst h20
      refine (Tryd.slices_Equal_int_empty a1 a2 c1 0 c2 w (by omega)).mono ?_
      rintro e w' ⟨rfl, rfl⟩
      exact ⟨rfl, Below.refl _ _⟩
    · have hp1 := List.length_pos_iff.2 h0
      obtain ⟨b1, o1, rfl, _, q1⟩ := h1.at hp1
      obtain ⟨b2, o2, rfl, _, q2⟩ := h2.at (show 0 < l2.length by omega)
      refine (Tryd.slices_Equal_int b1 o1 l1.length c1 b2 o2 l2.length c2 l1 l2 w (Nat.le_refl _) (Nat.le_refl _) k1 k2 (ivIn_cells q1) (ivIn_cells q2)).mono ?_
      rintro e w' ⟨rfl, q, rfl⟩
      rw [List.take_length, List.take_length]
      exact ⟨by rw [show (l1 == l2) = decide (l1 = l2) from by rw [Bool.eq_iff_iff]; simp], bel_drewN w q⟩
  · refine (Tryd.slices_Equal_int_lens a1 a2 l1.length c1 l2.length c2 w hl).mono ?_
    rintro e w' ⟨rfl, rfl⟩
    rw [decide_eq_false (fun q => hl (by rw [q]))]
    exact ⟨rfl, Below.refl _ _⟩

set_option maxHeartbeats 1600000 in
theorem sameK_one (x y : MvH) (w : World) (hx : IvIn w x.a x.x.ev) (hy : IvIn w y.a y.x.ev) (mx : x.x.ev.length ≤ maxLen) (my : y.x.ev.length ≤ maxLen) :
    Calls Tryd.prog 95 #[.agg (mvC x), .agg (mvC y)] w fun e w' => e = .returned (.bool (decide (x.x = y.x))) ∧ Below w.heap.size w w' := by
  obtain ⟨⟨a1, f1, e1⟩, p1, c1⟩ := x
  obtain ⟨⟨a2, f2, e2⟩, p2, c2⟩ := y
  simp only at *
  unfold mvC
  simp only
  have hb0 : Below w.heap.size w ((w.alloc (.cells #[.bool a1, .int .i64 f1, .slice p1 e1.length c1] 92)).alloc (.cells #[.bool a2, .int .i64 f2, .slice p2 e2.length c2] 92)) := ((Below.refl _ _).alloc (Nat.le_refl _) _).alloc (by simp) _
  have HE := Lib.hid (intEq_any p1 p2 c1 c2 e1 e2 _ (hx.below hb0) (hy.below hb0) mx my)
  have he : decide ((⟨a1, f1, e1⟩ : Mv) = ⟨a2, f2, e2⟩) = ((a1 == a2) && ((f1 == f2) && decide (e1 = e2))) := by
    by_cases q1 : a1 = a2
    · by_cases q2 : f1 = f2
      · subst q1 q2
        simp
      · rw [decide_eq_false (fun q => q2 (congrArg Mv.first q)), (beq_eq_false_iff_ne.2 q2)]
        simp
    · rw [decide_eq_false (fun q => q1 (congrArg Mv.all q)), (beq_eq_false_iff_ne.2 q1)]
      simp
  rw [he]
  clear he hx hy
  cases hq1 : (a1 == a2) with
  | false =>
    clear HE
    go_enter Tryd.func95, Tryd.ntmps95
    go_wp2
    go_ret
    exact ⟨by simp, hb0⟩
  | true =>
    cases hq2 : (f1 == f2) with
    | false =>
      clear HE
      go_enter Tryd.func95, Tryd.ntmps95
      go_wp2
      go_ret
      exact ⟨by simp, hb0⟩
    | true =>
      have hsz : ((w.alloc (.cells #[.bool a1, .int .i64 f1, .slice p1 e1.length c1] 92)).alloc (.cells #[.bool a2, .int .i64 f2, .slice p2 e2.length c2] 92)).heap.size = w.heap.size + 1 + 1 := by simp
      go_enter Tryd.func95, Tryd.ntmps95
      go_wp2_with fail
      refine HE.out.mono ?_
      rintro e w2 ⟨rfl, b2⟩
      have B2 := hb0.trans (b2.mono hb0.size)
      go_wp2
      go_ret
      exact ⟨by simp, B2⟩

set_option maxHeartbeats 3200000 in
theorem sameK_many (a1 a2 : Option Addr) (c1 c2 : Nat) (h1 h2 : List MvH) (w : World) (H1 : MvsIn w a1 h1) (H2 : MvsIn w a2 h2) (m1 : h1.length ≤ maxLen) (m2 : h2.length ≤ maxLen) :
    Calls Tryd.prog 84 #[.slice a1 h1.length c1, .slice a2 h2.length c2, .func (.func 95) #[] #[]] w fun e w' => e = .returned (.bool (decide (xs h1 = xs h2))) ∧ Below w.heap.size w w' := by
  have k1 : h1.length ≤ 9223372036854775807 := m1
  have k2 : h2.length ≤ 9223372036854775807 := m2
  clear m1 m2
  by_cases hl : h1.length = h2.length
  · have hl3 := Lib.hid hl.symm
    have HIN : Hid (∀ (k : Nat) (hk : k < h1.length), xs h1 = xs h2 → h1[k].x = (h2[k]'(by rw [hl3.out]; exact hk)).x) := fun k hk q => by
      have e1 := xs_get h1 k hk
      have e2 := xs_get h2 k (by rw [hl3.out]; exact hk)
      rw [← e1, ← e2]
      congr 1
    have HEX : Hid ((∀ (k : Nat) (hk : k < h1.length), h1[k].x = (h2[k]'(by rw [hl3.out]; exact hk)).x) → xs h1 = xs h2) := fun q => by
      apply List.ext_getElem
      · rw [xs_len, xs_len, hl]
      · intro k q1 q2
        rw [xs_len] at q1 q2
        rw [xs_get h1 k q1, xs_get h2 k q2]
        exact q k q1
    rw [← hl]
    clear hl k2
    go_enter Tryd.func84, Tryd.ntmps84
    go_wp2_with fail
    go_loopw [17] (fun i wr => ∃ k : Nat, k ≤ h1.length ∧ i = .int .i64 k ∧ (∀ (j : Nat) (hj : j < h1.length), j < k → h1[j].x = (h2[j]'(by rw [hl3.out]; exact hj)).x) ∧ Below w.heap.size w wr) (fun i _ => h1.length - (intOf i).toNat)
    case atStart => exact ⟨0, by omega, rfl, fun j hj q => by omega, Below.refl _ _⟩
    case round =>
      obtain ⟨k, hk, rfl, hall, Bk⟩ := hrel
      by_cases hlt : k < h1.length
      · have I1 := H1.below Bk
        have I2 := H2.below Bk
        have hlt2 : k < h2.length := by rw [hl3.out]; exact hlt
        obtain ⟨b1, o1, rfl, hb1, at1⟩ := I1.row.at hlt
        obtain ⟨b2, o2, rfl, hb2, at2⟩ := I2.row.at hlt2
        have q1 : (k : Int) < (h1.length : Int) := by omega
        have q2 : decide ((k : Int) < (h1.length : Int)) = true := decide_eq_true q1
        have q3 : (0 : Int) ≤ (k : Int) := by omega
        have q4 : IntKind.i64.wrap ((k : Int) + 1) = (k : Int) + 1 := by rw [IntKind.wrap_i64] <;> omega
        have HK1 := at1 k hlt
        have HK2 := at2 k hlt2
        obtain ⟨e1, cp1, cm1⟩ := I1.ev h1[k] (List.getElem_mem hlt)
        obtain ⟨e2, cp2, cm2⟩ := I2.ev h2[k] (List.getElem_mem hlt2)
        have HS : Hid (∀ W, Below wr.heap.size wr W → Calls Tryd.prog 95 #[.agg (mvC h1[k]), .agg (mvC h2[k])] W fun e w' => e = .returned (.bool (decide (h1[k].x = h2[k].x))) ∧ Below W.heap.size W w') := fun W hb => sameK_one h1[k] h2[k] W (e1.below hb) (e2.below hb) (Nat.le_trans cp1 cm1) (Nat.le_trans cp2 cm2)
        have hstep : Hid (h1[k].x = h2[k].x → ∀ (j : Nat) (hj : j < h1.length), j < k + 1 → h1[j].x = (h2[j]'(by rw [hl3.out]; exact hj)).x) := fun q j hj hj2 => by
          by_cases hjk : j = k
          · subst hjk; exact q
          · exact hall j hj (by omega)
        have hno : Hid (¬ h1[k].x = h2[k].x → decide (xs h1 = xs h2) = false) := fun q => decide_eq_false (fun r => q (HIN.out k hlt r))
        generalize h1[k] = x at *
        generalize h2[k] = y at *
        clear at1 at2 e1 e2 cp1 cm1 cp2 cm2 I1 I2 hall HIN HEX
        have k2 : (k : Int) < (h2.length : Int) := by have := hl3.out; omega
        have HA4 := Blk.new wr 92 (mvC zMvH)
        have b4 : Below wr.heap.size wr (wr.alloc (.cells (mvC zMvH) 92)) := (Below.refl _ _).alloc (Nat.le_refl _) _
        go_upto_region 6 with (first
          | (refine load_cells (B := b1) (k := o1 + k * 3) 92 (mvC x) (by rfl) rfl rfl HK1 (by kernel_rfl) (by kernel_rfl) ?_)
          | (refine alloc_blk 92 (mvC zMvH) (by rfl) rfl Tryd.mhZero ?_)
          | (refine store_blk (k := 0) 92 (.agg (mvC x)) (mvC x) (by rfl) rfl rfl rfl HA4 (by kernel_rfl) (show (3 : Nat) ≤ 3 from Nat.le_refl 3) (by rfl) (st_whole _ _ rfl) ?_; intro w5 HA5 b5 g5))
        have b15 := b4.trans b5
        have HK5 : CellsAt w5 b2 (o2 + k * 3) (mvC y) := HK2.below b15 hb2
        have HA6 := Blk.new w5 92 (mvC zMvH)
        have b6 : Below w5.heap.size w5 (w5.alloc (.cells (mvC zMvH) 92)) := (Below.refl _ _).alloc (Nat.le_refl _) _
        clear HA4 b4 b5 g5 HK1 HK2
        have hsw := Bk.size
        have hs5 : w.heap.size ≤ w5.heap.size := Nat.le_trans hsw b15.size
        have HS5 := Lib.hid (fun W (hb : Below w5.heap.size w5 W) => HS.out W (b15.trans (hb.mono b15.size)))
        have B5 := Bk.trans (b15.mono hsw)
        clear HS b15 Bk
        generalize wr.heap.size = G1 at *
        go_upto_region 7 with (first
          | (refine load_cells (B := b2) (k := o2 + k * 3) 92 (mvC y) (by rfl) rfl rfl HK5 (by kernel_rfl) (by kernel_rfl) ?_)
          | (refine alloc_blk 92 (mvC zMvH) (by rfl) rfl Tryd.mhZero ?_)
          | (refine store_blk (k := 0) 92 (.agg (mvC y)) (mvC y) (by rfl) rfl rfl rfl HA6 (by kernel_rfl) (show (3 : Nat) ≤ 3 from Nat.le_refl 3) (by rfl) (st_whole _ _ rfl) ?_; intro w7 HA7 b7 g7))
        have b57 := b6.trans b7
        have HA5' := HA5.kept b57
        have B7 := B5.trans (b57.mono hs5)
        have HS7 := Lib.hid (HS5.out w7 b57)
        have hs7 : w.heap.size ≤ w7.heap.size := Nat.le_trans hs5 b57.size
        clear HS5 B5 b57 b6 b7 g7 HA6 HK5
        generalize w5.heap.size = G2 at *
        go_wp2_with (first
          | (refine load_blk (k := 0) 92 (mvC x) (by rfl) rfl rfl HA5' (by kernel_rfl) (by kernel_rfl) rfl ?_)
          | (refine load_blk (k := 0) 92 (mvC y) (by rfl) rfl rfl HA7 (by kernel_rfl) (by kernel_rfl) rfl ?_))
        refine HS7.out.mono ?_
        rintro e w8 ⟨rfl, b8⟩
        have B8 := B7.trans (b8.mono hs7)
        by_cases hxy : x.x = y.x
        · rw [decide_eq_true hxy]
          have hst := Lib.hid (hstep.out hxy)
          clear hno hxy hstep
          go_wp2
          go_roundw
          case rel => exact ⟨k + 1, by omega, by go_num, hst.out, B8⟩
          case measure => simp [intOf]; omega
        · rw [decide_eq_false hxy]
          have hnn := Lib.hid (hno.out hxy)
          clear hno hxy hstep
          go_wp2
          go_ret
          exact ⟨by rw [hnn.out]; rfl, B8⟩
      · obtain rfl : k = h1.length := by omega
        have q2 : decide ((h1.length : Int) < (h1.length : Int)) = false := decide_eq_false (by omega)
        have hyes : Hid (decide (xs h1 = xs h2) = true) := decide_eq_true (HEX.out (fun j hj => hall j hj hj))
        clear hall HIN HEX
        go_wp2
        go_ret
        exact ⟨by rw [hyes.out]; rfl, Bk⟩
  · have d : ((h1.length : Int) != (h2.length : Int)) = true := by
      rw [bne_iff_ne]
      omega
    rw [decide_eq_false (fun q : xs h1 = xs h2 => hl (by rw [← xs_len h1, ← xs_len h2, q]))]
    clear hl
    go_enter Tryd.func84, Tryd.ntmps84
    go_wp2
    go_ret
    exact ⟨rfl, Below.refl _ _⟩

theorem sameK_any (a1 a2 : Option Addr) (c1 c2 : Nat) (h1 h2 : List MvH) (w : World) (H1 : MvsIn w a1 h1) (H2 : MvsIn w a2 h2) (m1 : h1.length ≤ maxLen) (m2 : h2.length ≤ maxLen) :
    Calls Tryd.prog 65 #[.slice a1 h1.length c1, .slice a2 h2.length c2] w fun e w' => e = .returned (.bool (decide (xs h1 = xs h2))) ∧ Below w.heap.size w w' := by
  have HX := Lib.hid (sameK_many a1 a2 c1 c2 h1 h2 w H1 H2 m1 m2)
  go_enter Tryd.func65, Tryd.ntmps65
  go_wp2_with fail
  refine HX.out.mono ?_
  rintro e w2 ⟨rfl, b2⟩
  go_wp2
  go_ret
  exact ⟨rfl, b2⟩

end Go.Proofs.YtdjljnpbnhampaaDoor

namespace Go.Proofs.YtdjljnpbnhampaaDoor
open Go.RowKit
attribute [local go_sem ↓] Go.wp_at_zero Go.wp_at_succ
set_option linter.unusedSimpArgs false
set_option linter.unusedVariables false
set_option maxRecDepth 100000

theorem ownIv_cap {w : World} {base n c : Nat} {a : Option Addr} {l : List Int} (hn : n = l.length) (h : OwnIv w base (.slice a n c) l) : IvIn w a l ∧ n ≤ c ∧ c ≤ maxLen := by
  subst hn
  rcases h with ⟨rfl, e⟩ | ⟨h1, g, cap, e, h2⟩
  · injection e with e1 e2 e3
    subst e1 e3
    exact ⟨Or.inl rfl, Nat.le_refl _, Nat.zero_le _⟩
  · injection e with e1 e2 e3
    subst e1 e3
    rcases h2.2 with ⟨e, _⟩ | ⟨g', cap', cur, e, _, _, q1, q2, _⟩
    · cases e
    · injection e with e1 e2 e3
      subst e3
      exact ⟨Or.inr ⟨g, 0, rfl, (h2.lt g rfl).2, iv_own rfl h2⟩, q1, q2⟩

theorem ownAs_in {w : World} {base : Nat} {v : Value} {hs : List MvH} (h : OwnAs w base v hs) : ∃ a c, v = .slice a hs.length c ∧ MvsIn w a hs := by
  obtain ⟨a, c, e, hm⟩ := h.row.inL
  exact ⟨a, c, e, hm, fun x hx => ownIv_cap rfl (h.ev x hx)⟩

theorem err_nil {w : World} {er : Value} {pl : Int} (h : ErrAs w er 0 pl) : er = .nilIface := by
  rcases h with ⟨e, _⟩ | ⟨e, _⟩
  · exact e
  · exact absurd rfl e

theorem err3_nil {w : World} {er : Value} {pl : Int} (h : ErrAs3 w er 0 pl) : er = .nilIface := by
  rcases h with h | ⟨_, e, _⟩
  · exact err_nil h
  · exact absurd rfl e

theorem err3_ne {w : World} {er : Value} {e pl : Int} (h : ErrAs3 w er e pl) (he : e ≠ 0) : ∃ t p, er = .iface t p := by
  rcases h with (⟨_, e1, _⟩ | ⟨_, q, e1, _⟩) | ⟨e1, _⟩
  · exact absurd e1 he
  · exact ⟨_, _, e1⟩
  · exact ⟨_, _, e1⟩

theorem err_ne {w : World} {er : Value} {e pl : Int} (h : ErrAs w er e pl) (he : e ≠ 0) : ∃ q, er = .iface 142 (.pointer (some ⟨q, 0, none⟩)) ∧ Flt w q e pl := by
  rcases h with ⟨_, e1, _⟩ | ⟨_, q, e1, hf⟩
  · exact absurd e1 he
  · exact ⟨q, e1, hf⟩

set_option maxHeartbeats 1600000 in
theorem lots_some (a : Option Addr) (c : Nat) (hs : List MvH) (w : World) (h : MvsIn w a hs) (hm : hs.length ≤ maxLen) :
    Calls Tryd.prog 19 #[.slice a hs.length c] w fun e w' => (∃ b, e = .returned (.bool b)) ∧ Below w.heap.size w w' := by
  have k1 : hs.length ≤ 9223372036854775807 := hm
  clear hm
  go_enter Tryd.func19, Tryd.ntmps19
  go_wp2_with fail
  go_loopw [3, 10] (fun v i wr => ∃ k : Nat, k ≤ hs.length ∧ i = .int .i64 k ∧ (∃ x : Int, v = .int .i64 x) ∧ Below w.heap.size w wr) (fun _ i _ => hs.length - (intOf i).toNat)
  case atStart => exact ⟨0, by omega, rfl, ⟨_, rfl⟩, Below.refl _ _⟩
  case round =>
    obtain ⟨k, hk, rfl, ⟨x, rfl⟩, Bk⟩ := hrel
    by_cases hlt : k < hs.length
    · have hI := h.below Bk
      obtain ⟨b, lo, rfl, hbl, hat⟩ := hI.row.at hlt
      have q1 : (k : Int) < (hs.length : Int) := by omega
      have q2 : decide ((k : Int) < (hs.length : Int)) = true := decide_eq_true q1
      have q3 : (0 : Int) ≤ (k : Int) := by omega
      have q4 : IntKind.i64.wrap ((k : Int) + 1) = (k : Int) + 1 := by rw [IntKind.wrap_i64] <;> omega
      have HK := hat k hlt
      have hsw := Bk.size
      generalize hs[k] = y at *
      clear hat hI
      have HA4 := Blk.new wr 92 (mvC zMvH)
      have b4 : Below wr.heap.size wr (wr.alloc (.cells (mvC zMvH) 92)) := (Below.refl _ _).alloc (Nat.le_refl _) _
      go_upto_region 5 with (first
        | (refine load_cells (B := b) (k := lo + k * 3) 92 (mvC y) (by rfl) rfl rfl HK (by kernel_rfl) (by kernel_rfl) ?_)
        | (refine alloc_blk 92 (mvC zMvH) (by rfl) rfl Tryd.mhZero ?_)
        | (refine store_blk (k := 0) 92 (.agg (mvC y)) (mvC y) (by rfl) rfl rfl rfl HA4 (by kernel_rfl) (show (3 : Nat) ≤ 3 from Nat.le_refl 3) (by rfl) (st_whole _ _ rfl) ?_; intro w5 HA5 b5 g5))
      have B5 := Bk.trans ((b4.trans b5).mono hsw)
      clear HA4 b4 b5 g5 HK Bk
      generalize wr.heap.size = G1 at *
      have c2 := HA5.cv 2 (.slice y.a y.x.ev.length y.c) rfl
      obtain ⟨L, hL⟩ : ∃ L, y.x.ev.length = L := ⟨_, rfl⟩
      rw [hL] at c2
      clear hL HA5
      go_wp2
      go_roundw
      case rel => exact ⟨k + 1, by omega, by go_num, ⟨_, rfl⟩, B5⟩
      case measure => simp [intOf]; omega
    · obtain rfl : k = hs.length := by omega
      have q2 : decide ((hs.length : Int) < (hs.length : Int)) = false := decide_eq_false (by omega)
      go_wp2
      go_ret
      exact ⟨⟨_, rfl⟩, Bk⟩

def mv0 : Mv := ⟨false, 10, [1, 2, 3, 4]⟩

theorem mv0_ok : okMv mv0 = true := by decide

theorem mv0_E : mvE [mv0] = (0, -1) := by decide

theorem mv0_W : mvX [mv0] = [0, 1, 2, 0, 4, 0, 10, 51, 144, 0, 0, 0, 0] := by decide

theorem mv0_R : rdMvs [0, 1, 2, 0, 4, 0, 10, 51, 144, 0, 0, 0, 0] = .ok [mv0] := by
  have h := mvs_wrote [mv0] (by simp [mv0_ok]) (by decide)
  have e : mvW [mv0] = [0, 1, 2, 0, 4, 0, 10, 51, 144, 0, 0, 0, 0] := by decide
  rw [e] at h
  exact h

theorem w_one (B0 B1 : Nat) (w2 : World) (H1 : Blk w2 B1 92 (mvC ⟨mv0, some ⟨B0, 0, none⟩, 4⟩)) (H0 : Blk w2 B0 3 #[.int .i64 1, .int .i64 2, .int .i64 3, .int .i64 4]) :
    MvsIn w2 (some ⟨B1, 0, none⟩) [⟨mv0, some ⟨B0, 0, none⟩, 4⟩] := by
  refine ⟨Or.inr ⟨B1, 0, rfl, H1.lt, ?_⟩, ?_⟩
  · intro j hj
    have hj : j < 1 := hj
    obtain rfl : j = 0 := by omega
    intro k u hu
    have := H1.cv k u hu
    simpa using this
  · intro h hh
    simp only [List.mem_singleton] at hh
    subst hh
    refine ⟨Or.inr ⟨B0, 0, rfl, H0.lt, ?_⟩, Nat.le_refl 4, (show 4 ≤ maxLen by unfold maxLen; decide)⟩
    intro j hj
    have hj : j < 4 := hj
    intro k u hu
    have hk : k = 0 := by
      rcases k with _ | k
      · rfl
      · simp [ivC] at hu
    subst hk
    have e : (#[.int .i64 1, .int .i64 2, .int .i64 3, .int .i64 4] : Array Value)[j]? = some u := by
      rw [← hu]
      rcases j with _ | _ | _ | _ | j <;> first | rfl | omega
    have := H0.cv j u e
    simpa using this

theorem wr_one (a : Option Addr) (c : Nat) (h : MvH) (hh : h.x = mv0) (S : ByteArray) (hS : S = ⟨#[0, 1, 2, 0, 4, 0, 10, 51, 144, 0, 0, 0, 0]⟩) (w : World) (H : MvsIn w a [h]) :
    Calls Tryd.prog 64 #[.slice a 1 c] w fun e w' => e = .returned (.tuple #[.string S, .nilIface]) ∧ Below w.heap.size w w' := by
  subst hS
  have hx : xs [h] = [mv0] := by simp [xs, hh]
  refine (mvWrite_any a c [h] w H).mono ?_
  rintro e w' ⟨er, rfl, hE, b⟩
  rw [hx, mv0_E] at hE
  obtain rfl := err3_nil hE
  rw [hx, mv0_W]
  exact ⟨rfl, b⟩

theorem rd_one (S : ByteArray) (hS : S = ⟨#[0, 1, 2, 0, 4, 0, 10, 51, 144, 0, 0, 0, 0]⟩) (w : World) :
    Calls Tryd.prog 12 #[.string S] w fun e w' => ∃ a c h, e = .returned (.tuple #[.slice a 1 c, .nilIface]) ∧ h.x = mv0 ∧ MvsIn w' a [h] ∧ Below w.heap.size w w' := by
  subst hS
  refine (mvRead_any ⟨#[0, 1, 2, 0, 4, 0, 10, 51, 144, 0, 0, 0, 0]⟩ w (by decide)).mono ?_
  rintro e w' ⟨v, er, hs, rfl, hx, hO, hE, b⟩
  have e1 : rdMvs (⟨#[0, 1, 2, 0, 4, 0, 10, 51, 144, 0, 0, 0, 0]⟩ : ByteArray).data.toList = .ok [mv0] := mv0_R
  rw [e1] at hx hE
  obtain rfl := err_nil hE
  obtain ⟨a, c, rfl, hm⟩ := ownAs_in hO
  have hx : xs hs = [mv0] := hx
  have hl : hs.length = 1 := by rw [← xs_len, hx]; rfl
  match hs, hl with
  | [h], _ =>
    have : h.x = mv0 := by simpa [xs] using hx
    exact ⟨a, c, h, rfl, this, hm, b⟩

theorem same_one (a1 a2 : Option Addr) (c1 c2 : Nat) (h1 h2 : MvH) (e1 : h1.x = mv0) (e2 : h2.x = mv0) (w : World) (H1 : MvsIn w a1 [h1]) (H2 : MvsIn w a2 [h2]) :
    Calls Tryd.prog 65 #[.slice a1 1 c1, .slice a2 1 c2] w fun e w' => e = .returned (.bool true) ∧ Below w.heap.size w w' := by
  refine (sameK_any a1 a2 c1 c2 [h1] [h2] w H1 H2 (show 1 ≤ maxLen by unfold maxLen; decide) (show 1 ≤ maxLen by unfold maxLen; decide)).mono ?_
  rintro e w' ⟨rfl, b⟩
  have : xs [h1] = xs [h2] := by simp [xs, e1, e2]
  rw [decide_eq_true this]
  exact ⟨rfl, b⟩

set_option maxHeartbeats 3200000 in
theorem wanted_yes (w : World) : Calls Tryd.prog 18 #[] w fun e w' => e = .returned (.bool true) ∧ Below w.heap.size w w' := by
  have hE0 := Blk.new w 3 #[.int .i64 1, .int .i64 2, .int .i64 3, .int .i64 4]
  have b0 : Below w.heap.size w (w.alloc (.cells #[.int .i64 1, .int .i64 2, .int .i64 3, .int .i64 4] 3)) := (Below.refl _ _).alloc (Nat.le_refl _) _
  have z0 : (0 : Nat) < w.heap.size + 1 := Nat.succ_pos _
  generalize hhd : (⟨mv0, some ⟨w.heap.size, 0, none⟩, 4⟩ : MvH) = hd
  have hc : Hid (mvC hd = #[.bool false, .int .i64 10, .slice (some ⟨w.heap.size, 0, none⟩) 4 4]) := by rw [← hhd]; rfl
  have hx : Hid (hd.x = mv0) := by rw [← hhd]; exact Lib.hid rfl
  have hM : Hid (∀ w2 B1, Blk w2 B1 92 (mvC hd) → Blk w2 w.heap.size 3 #[.int .i64 1, .int .i64 2, .int .i64 3, .int .i64 4] → MvsIn w2 (some ⟨B1, 0, none⟩) [hd]) := by
    intro w2 B1 H1 H0
    rw [← hhd] at H1 ⊢
    exact w_one _ _ _ H1 H0
  clear hhd
  have hz : Hid (∀ o, (w.alloc o).heap.size = w.heap.size + 1) := Lib.hid fun o => Array.size_push _
  obtain ⟨S, hS⟩ : ∃ S : ByteArray, Hid (S = ⟨#[0, 1, 2, 0, 4, 0, 10, 51, 144, 0, 0, 0, 0]⟩) := ⟨_, Lib.hid rfl⟩
  have q1 : (S.toList == [0, 1, 2, 0, 4, 0, 10, 51, 144, 0, 0, 0, 0]) = true := by rw [hS.out, ByteArray.toList_eq]; decide
  go_enter Tryd.func18, Tryd.ntmps18
  go_wp2_with (first
    | (refine build_blk (t := 92) (mvC hd) (by rfl) rfl (by rw [hc.out]; kernel_rfl) ?_)
    | (refine sliceL_mh hd rfl rfl rfl ?_; intro w2 HS2 b2 s2
       rw [hz.out] at HS2 b2 s2
       have HM2 := hM.out w2 _ HS2 (hE0.below b2 (Nat.lt_succ_self _)))
    | (refine (wr_one _ _ hd hx.out S hS.out _ HM2).mono ?_; rintro e w3 ⟨rfl, b3⟩)
    | (refine (rd_one S hS.out _).mono ?_; rintro e w4 ⟨a4, c4, h4, rfl, e4, HM4, b4⟩)
    | (refine (same_one _ _ _ _ hd h4 hx.out e4 _ (HM2.below (b3.trans (b4.mono b3.size))) HM4).mono ?_; rintro e w5 ⟨rfl, b5⟩))
  go_ret
  refine ⟨rfl, b0.trans ((b2.mono (Nat.le_succ _)).trans ?_)⟩
  exact (b3.trans ((b4.mono b3.size).trans (b5.mono (Nat.le_trans b3.size b4.size)))).mono (Nat.le_of_lt (Nat.lt_trans (Nat.lt_succ_self _) s2))

end Go.Proofs.YtdjljnpbnhampaaDoor

namespace Go.Proofs.YtdjljnpbnhampaaDoor
open Go.RowKit
attribute [local go_sem ↓] Go.wp_at_zero Go.wp_at_succ
set_option linter.unusedSimpArgs false
set_option linter.unusedVariables false
set_option maxRecDepth 100000

theorem OwnIv.apart {w w' : World} {base : Nat} {v : Value} {l : List Int} {row : Option Nat} (h : OwnIv w base v l) (hg : w.grownBy w' row) (hr : ∀ g, v.ownBlock = some g → some g ≠ row) : OwnIv w' base v l := by
  rcases h with h | ⟨h1, g, cap, rfl, h2⟩
  · exact Or.inl h
  · exact Or.inr ⟨h1, g, cap, rfl, h2.kept hg (Or.inr (hr g rfl))⟩

theorem OwnIv.lt {w : World} {base : Nat} {v : Value} {l : List Int} (h : OwnIv w base v l) : ∀ g, v.ownBlock = some g → base ≤ g ∧ g < w.heap.size := by
  rcases h with ⟨_, rfl⟩ | ⟨h1, g, cap, rfl, h2⟩
  · intro g e; cases e
  · exact h2.lt

/-- No attribute goes on with a VID. -/
def NoGoB (L : List Mv) (v : Int) : Prop := ∀ (l : List Mv) (b : Mv), L = l ++ [b] → goesM b v = false

theorem packS_no {L : List Mv} {p : Pr} (h : NoGoB L p.vid) : packS L p = L ++ [⟨false, p.vid, [p.ev]⟩] := by
  rcases List.eq_nil_or_concat L with rfl | ⟨l, b, rfl⟩
  · rfl
  · rw [List.concat_eq_append] at h ⊢
    rw [packS_snoc, h l b rfl]
    simp

/-- Where an attribute's events lie. -/
def evV (x : MvH) : Value := .slice x.a x.x.ev.length x.c

/-- What is packed so far. -/
def PkSt (w : World) (base : Nat) (v : Value) (L : List Mv) : Prop := (L = [] ∧ v = .slice none 0 0) ∨ ∃ (hs : List MvH) (y : MvH) (D : Nat), L = xs hs ++ [y.x] ∧ OwnMh w base v (hs ++ [y]) ∧ base ≤ D ∧ D ≤ w.heap.size ∧
  (∀ x ∈ hs, OwnIv w base (evV x) x.x.ev ∧ ∀ g, (evV x).ownBlock = some g → g < D) ∧ OwnIv w D (evV y) y.x.ev

theorem PkSt.nil (w : World) (base : Nat) : PkSt w base (.slice none 0 0) [] := Or.inl ⟨rfl, rfl⟩

theorem grown0 {w w' : World} (hb : Below w.heap.size w w') : w.grownBy w' none := ⟨hb.os, hb.tape, hb.output, hb.size, fun k hk _ => hb.block k hk⟩

theorem PkSt.kept {w w' : World} {base : Nat} {v : Value} {L : List Mv} (h : PkSt w base v L) (hb : Below w.heap.size w w') : PkSt w' base v L := by
  rcases h with h | ⟨hs, y, D, h1, h2, h3, h4, h5, h6⟩
  · exact Or.inl h
  · exact Or.inr ⟨hs, y, D, h1, h2.kept hb, h3, Nat.le_trans h4 hb.size, fun x hx => ⟨(h5 x hx).1.kept hb, (h5 x hx).2⟩, h6.kept hb⟩

theorem PkSt.drew {w : World} {base : Nat} {v : Value} {L : List Mv} (h : PkSt w base v L) : PkSt w.drew base v L := h

theorem PkSt.asb {w : World} {base : Nat} {v : Value} {L : List Mv} (h : PkSt w base v L) : ∃ hs, xs hs = L ∧ OwnAs w base v hs := by
  rcases h with ⟨rfl, rfl⟩ | ⟨hs, y, D, h1, h2, h3, h4, h5, h6⟩
  · exact ⟨[], rfl, OwnAs.nil w base⟩
  · refine ⟨hs ++ [y], by rw [h1]; simp [xs], h2, fun x hx => ?_⟩
    rcases List.mem_append.1 hx with q | q
    · exact (h5 x q).1
    · rw [List.mem_singleton.1 q]
      exact h6.mono h3

theorem iv_one {w : World} {e : Nat} {x : Int} (h : Blk w e 3 (ivC x)) : OwnIv w e (.slice (some ⟨e, 0, none⟩) 1 1) [x] := by
  refine Or.inr ⟨by simp, e, 1, rfl, ?_⟩
  refine ⟨rfl, Or.inr ⟨e, 1, ivC x, rfl, Nat.le_refl _, h, Nat.le_refl _, by unfold maxLen; omega, rfl, rfl⟩⟩

/-- The row of attributes is written anew: events are kept. -/
theorem iv_mh {w w' : World} {base B : Nat} {v u : Value} {hs : List MvH} {l : List Int} (hM : OwnMh w base v hs) (hg : w.grownBy w' v.ownBlock) (h : OwnIv w B u l) : OwnIv w' B u l := by
  rcases hM.blk with e | ⟨g, C, e, _, hb⟩
  · rw [e] at hg
    exact h.apart hg (fun g q => by simp)
  · rw [e] at hg
    exact h.other hb (by decide) hg

/-- Events are written anew: the row of attributes is kept. -/
theorem mh_ev {w w' : World} {base B : Nat} {v u : Value} {hs : List MvH} {l : List Int} (h : OwnMh w base v hs) (hI : OwnIv w B u l) (hg : w.grownBy w' u.ownBlock) : OwnMh w' base v hs := by
  rcases hI.blk with e | ⟨g, C, e, _, hb⟩
  · rw [e] at hg
    exact h.grown hg (fun g q => by cases q)
  · rw [e] at hg
    exact h.other hb (by decide) hg

/-- One field of the last is stored anew. -/
theorem own_last {w w' : World} {base g cap n : Nat} {A : List MvH} {y z : MvH} {cur : Array Value} (hn : (A ++ [y]).length = n)
    (h : w.ownsRow base 92 3 (.slice (some ⟨g, 0, none⟩) n cap) n (mvR (A ++ [y]))) (hg : Blk w g 92 cur) (hz1 : z.x.all = y.x.all) (hz2 : z.x.first = y.x.first)
    (hw : Blk w' g 92 (cur.setIfInBounds (A.length * 3 + 2) (evV z))) :
    w'.ownsRow base 92 3 (.slice (some ⟨g, 0, none⟩) n cap) n (mvR (A ++ [z])) := by
  obtain ⟨h0, h1⟩ := h
  have hl2 : (A ++ [z]).length = n := by rw [← hn]; simp
  refine ⟨by rw [mvR_len, hl2], ?_⟩
  rcases h1 with ⟨h1, h2⟩ | ⟨g', cap', cur', e1, e2, e3, e4, e5, e6, e7⟩
  · cases h1
  · cases e1
    have ec : cur' = cur := by
      have q : w.heap[g]? = some (.cells cur 92 (0, 0)) := hg
      rw [q] at e3
      cases e3
      rfl
    subst ec
    refine Or.inr ⟨g, cap, _, rfl, e2, hw, e4, e5, by rw [Array.size_setIfInBounds]; exact e6, ?_⟩
    rw [Array.toList_setIfInBounds, List.take_set, e7, mvR_append, mvR_append, mvR_one, mvR_one, List.set_append_right _ _ (by rw [mvR_len]; omega), mvR_len, show A.length * 3 + 2 - A.length * 3 = 2 by omega]
    simp only [mvC, hz1, hz2]
    rfl

theorem own_mhblk {w : World} {base g cap n : Nat} {l : List MvH} (h : w.ownsRow base 92 3 (.slice (some ⟨g, 0, none⟩) n cap) n (mvR l)) : ∃ cur, Blk w g 92 cur ∧ n * 3 ≤ cur.size ∧ base ≤ g := by
  rcases h.2 with ⟨h1, -⟩ | ⟨g', cap', cur', e1, e2, e3, e4, e5, e6, e7⟩
  · cases h1
  · cases e1
    exact ⟨cur', e3, by rw [e6]; exact Nat.mul_le_mul_right 3 e4, e2⟩

/-- The last of a row that is not empty. -/
theorem mh_last {w : World} {base : Nat} {v : Value} {hs : List MvH} {y : MvH} (h : OwnMh w base v (hs ++ [y])) : ∃ g cap cur, v = .slice (some ⟨g, 0, none⟩) (hs.length + 1) cap ∧ base ≤ g ∧ Blk w g 92 cur ∧ hs.length * 3 + 3 ≤ cur.size ∧ CellsAt w g (hs.length * 3) (mvC y) ∧
    w.ownsRow base 92 3 (.slice (some ⟨g, 0, none⟩) (hs.length + 1) cap) (hs.length + 1) (mvR (hs ++ [y])) := by
  rcases h with ⟨h1, _⟩ | ⟨h1, g, cap, e, h2⟩
  · simp at h1
  · have hl : (hs ++ [y]).length = hs.length + 1 := by simp
    rw [e, hl] at h2
    rw [hl] at e
    obtain ⟨cur, q1, q2, q3⟩ := own_mhblk h2
    have hat := mh_own hl.symm h2
    have h3 := hat hs.length (by rw [hl]; omega)
    rw [Nat.zero_add] at h3
    have h4 : (hs ++ [y])[hs.length]'(by rw [hl]; omega) = y := by simp
    rw [h4] at h3
    exact ⟨g, cap, cur, e, q3, q1, by omega, h3, h2⟩

theorem blk_ne {w : World} {A B : Nat} {S T : TypeId} {C E : Array Value} (h1 : Blk w A S C) (h2 : Blk w B T E) (hT : S ≠ T) : A ≠ B := by
  rintro rfl
  have q1 : w.heap[A]? = some (.cells C S (0, 0)) := h1
  have q2 : w.heap[A]? = some (.cells E T (0, 0)) := h2
  rw [q1] at q2
  injection q2 with q2
  injection q2 with _ q3
  exact hT q3

/-- One more event of the last attribute. -/
theorem PkSt.go {w w1 w2 : World} {base g cap D n : Nat} {hs : List MvH} {y : MvH} {L : List Mv} {p : Pr} {v1 : Value} {cur : Array Value} (hn : n = hs.length) (hL : L = xs hs ++ [y.x]) (hg : goesM y.x p.vid = true)
    (hrow : w.ownsRow base 92 3 (.slice (some ⟨g, 0, none⟩) (n + 1) cap) (n + 1) (mvR (hs ++ [y]))) (hbg : base ≤ g) (hcur : Blk w g 92 cur) (hbD : base ≤ D) (hDw : D ≤ w.heap.size)
    (hev : ∀ x ∈ hs, OwnIv w base (evV x) x.x.ev ∧ ∀ q, (evV x).ownBlock = some q → q < D) (hI : OwnIv w D (evV y) y.x.ev)
    (h1 : OwnIv w1 D v1 (y.x.ev ++ [p.ev])) (g1 : w.grownBy w1 (evV y).ownBlock) (g2 : w1.grownBy w2 (some g)) (h2 : Blk w2 g 92 (cur.setIfInBounds (n * 3 + 2) v1)) :
    PkSt w2 base (.slice (some ⟨g, 0, none⟩) (n + 1) cap) (packS L p) := by
  subst hn
  have hM : OwnMh w base (.slice (some ⟨g, 0, none⟩) (hs.length + 1) cap) (hs ++ [y]) := Or.inr ⟨by simp, g, cap, by simp, by simpa using hrow⟩
  have hM1 := mh_ev hM hI g1
  have hcur1 : Blk w1 g 92 cur := by
    rcases hI.blk with e | ⟨q, C, e, _, hb⟩
    · rw [e] at g1
      exact hcur.grown g1 (by simp)
    · rw [e] at g1
      refine hcur.grown g1 ?_
      intro e2
      cases e2
      exact blk_ne hcur hb (by decide) rfl
  obtain ⟨a1, c1, e1, hi1⟩ := h1.inL
  subst e1
  have hl3 : (hs ++ [(⟨⟨y.x.all, y.x.first, y.x.ev ++ [p.ev]⟩, a1, c1⟩ : MvH)]).length = hs.length + 1 := by simp
  refine Or.inr ⟨hs, ⟨⟨y.x.all, y.x.first, y.x.ev ++ [p.ev]⟩, a1, c1⟩, D, ?_, ?_, hbD, Nat.le_trans hDw (Nat.le_trans g1.size g2.size), ?_, ?_⟩
  · rw [hL, packS_snoc, if_pos hg]
  · refine Or.inr ⟨by simp, g, cap, by rw [hl3], ?_⟩
    rw [hl3]
    rcases hM1 with ⟨q, _⟩ | ⟨_, g', cap', e', r'⟩
    · simp at q
    · injection e' with e1 e2 e3
      cases e1
      subst e3
      have hl4 : (hs ++ [y]).length = hs.length + 1 := by simp
      rw [hl4] at r'
      exact own_last hl4 r' hcur1 rfl rfl h2
  · intro x hx
    have q := hev x hx
    refine ⟨?_, q.2⟩
    have q1 := q.1.apart g1 (fun r hr => by
      rcases hI.blk with e | ⟨q', C, e, hq', hb⟩
      · rw [e]; simp
      · rw [e]
        intro e2
        cases e2
        have := q.2 r hr
        omega)
    exact q1.other hcur1 (by decide) g2
  · exact h1.other hcur1 (by decide) g2

/-- One alone. -/
theorem PkSt.alone {w w1 : World} {base E : Nat} {v v1 : Value} {hs : List MvH} {L : List Mv} {p : Pr} (hL : L = xs hs) (hM : OwnMh w base v hs) (hev : ∀ x ∈ hs, OwnIv w base (evV x) x.x.ev ∧ ∀ q, (evV x).ownBlock = some q → q < E) (hbE : base ≤ E)
    (hE : Blk w E 3 (ivC p.ev)) (hno : NoGoB L p.vid) (h1 : OwnMh w1 base v1 (hs ++ [⟨⟨false, p.vid, [p.ev]⟩, some ⟨E, 0, none⟩, 1⟩])) (g1 : w.grownBy w1 v.ownBlock) : PkSt w1 base v1 (packS L p) := by
  refine Or.inr ⟨hs, ⟨⟨false, p.vid, [p.ev]⟩, some ⟨E, 0, none⟩, 1⟩, E, ?_, h1, hbE, Nat.le_trans (Nat.le_of_lt hE.lt) g1.size, ?_, ?_⟩
  · rw [hL] at hno ⊢
    exact packS_no hno
  · intro x hx
    exact ⟨iv_mh hM g1 (hev x hx).1, (hev x hx).2⟩
  · exact iv_mh hM g1 (iv_one hE)

/-- What is packed, where it is something. -/
theorem PkSt.last {w : World} {base : Nat} {v : Value} {L : List Mv} (h : PkSt w base v L) (hne : L ≠ []) : ∃ (hs : List MvH) (y : MvH) (D : Nat), L = xs hs ++ [y.x] ∧ OwnMh w base v (hs ++ [y]) ∧ base ≤ D ∧ D ≤ w.heap.size ∧
    (∀ x ∈ hs, OwnIv w base (evV x) x.x.ev ∧ ∀ g, (evV x).ownBlock = some g → g < D) ∧ OwnIv w D (evV y) y.x.ev ∧ (∀ x ∈ hs ++ [y], OwnIv w base (evV x) x.x.ev ∧ ∀ g, (evV x).ownBlock = some g → g < w.heap.size) := by
  rcases h with ⟨q, _⟩ | ⟨hs, y, D, h1, h2, h3, h4, h5, h6⟩
  · exact absurd q hne
  · refine ⟨hs, y, D, h1, h2, h3, h4, h5, h6, fun x hx => ?_⟩
    rcases List.mem_append.1 hx with q | q
    · exact ⟨(h5 x q).1, fun r hr => Nat.lt_of_lt_of_le ((h5 x q).2 r hr) h4⟩
    · rw [List.mem_singleton.1 q]
      exact ⟨h6.mono h3, fun r hr => (h6.lt r hr).2⟩

theorem nogoB_last {hs : List MvH} {y : MvH} {v : Int} (h : goesM y.x v = false) : NoGoB (xs hs ++ [y.x]) v := by
  intro l b e
  obtain ⟨-, e2⟩ := List.append_inj' e rfl
  obtain rfl : y.x = b := by simpa using e2
  exact h

theorem xs_last (hs : List MvH) (y : MvH) : xs (hs ++ [y]) = xs hs ++ [y.x] := by simp [xs]

end Go.Proofs.YtdjljnpbnhampaaDoor

namespace Go.Proofs.YtdjljnpbnhampaaDoor
set_option linter.unusedVariables false

def okPrB (p : Pr) : Bool := decide (1 ≤ p.vid) && (decide (p.vid ≤ 4094) && okE5 p.ev)

theorem okMv_one (p : Pr) : okMv ⟨false, p.vid, [p.ev]⟩ = okPrB p := by
  unfold okMv okPrB
  simp only [List.length_cons, List.length_nil, Nat.zero_add, List.all_cons, List.all_nil, Bool.and_true]
  rw [if_neg (by decide)]
  have e : decide (p.vid ≤ 4095 - ((1 : Nat) : Int)) = decide (p.vid ≤ 4094) := by
    by_cases h : p.vid ≤ 4094
    · rw [decide_eq_true h, decide_eq_true (by omega)]
    · rw [decide_eq_false h, decide_eq_false (by omega)]
  rw [e]
  simp

theorem okPrB_ok {p : Pr} (h : okPrB p = true) : okPr p := by
  unfold okPrB at h
  simp only [Bool.and_eq_true, decide_eq_true_eq] at h
  exact ⟨h.1, h.2.1, h.2.2⟩

/-- What is wrong with the kth: 10, it doesn't rise; 1, it may not be. -/
def badP (ps : List Pr) (k : Nat) (p : Pr) : Int :=
  if 0 < k ∧ p.vid ≤ (ps.getD (k - 1) zPr).vid then 10 else if okPrB p then 0 else 1

theorem badP_ne {ps : List Pr} {k : Nat} {p : Pr} : badP ps k p = 0 ∨ badP ps k p = 1 ∨ badP ps k p = 10 := by
  unfold badP
  split
  · exact Or.inr (Or.inr rfl)
  · split
    · exact Or.inl rfl
    · exact Or.inr (Or.inl rfl)

theorem badP_ok {ps : List Pr} {k : Nat} {p : Pr} (h : badP ps k p = 0) : okPrB p = true ∧ ¬ (0 < k ∧ p.vid ≤ (ps.getD (k - 1) zPr).vid) := by
  unfold badP at h
  split at h
  · cases h
  · split at h
    · rename_i h1 h2
      exact ⟨h2, h1⟩
    · cases h

/-- All may be, or the kth may not, and all ahead may. -/
theorem pk_or_aux (ps : List Pr) : ∀ n, n ≤ ps.length → (∀ (k : Nat) (hk : k < ps.length), k < n → badP ps k ps[k] = 0) ∨ ∃ m, ∃ hm : m < ps.length, m < n ∧ badP ps m ps[m] ≠ 0 ∧ ∀ (k : Nat) (hk : k < ps.length), k < m → badP ps k ps[k] = 0
  | 0, _ => Or.inl (fun k hk h => absurd h (Nat.not_lt_zero _))
  | n + 1, hn => by
    rcases pk_or_aux ps n (by omega) with h | ⟨m, hm, h1, h2, h3⟩
    · by_cases hb : badP ps n (ps[n]'(by omega)) = 0
      · refine Or.inl (fun k hk hkn => ?_)
        by_cases e : k = n
        · subst e; exact hb
        · exact h k hk (by omega)
      · exact Or.inr ⟨n, by omega, by omega, hb, h⟩
    · exact Or.inr ⟨m, hm, by omega, h2, h3⟩

theorem pk_or (ps : List Pr) : (∀ (k : Nat) (hk : k < ps.length), badP ps k ps[k] = 0) ∨ ∃ m, ∃ hm : m < ps.length, badP ps m ps[m] ≠ 0 ∧ ∀ (k : Nat) (hk : k < ps.length), k < m → badP ps k ps[k] = 0 := by
  rcases pk_or_aux ps ps.length (Nat.le_refl _) with h | ⟨m, hm, h1, h2, h3⟩
  · exact Or.inl (fun k hk => h k hk hk)
  · exact Or.inr ⟨m, hm, h2, h3⟩

theorem take_okPr (ps : List Pr) (k : Nat) (h : ∀ (j : Nat) (hj : j < ps.length), j < k → badP ps j ps[j] = 0) : ∀ p ∈ ps.take k, okPr p := by
  intro p hp
  obtain ⟨j, hj, rfl⟩ := List.mem_take_iff_getElem.1 hp
  exact okPrB_ok (badP_ok (h j (by omega) (by omega))).1

theorem packL_snoc (ps : List Pr) (k : Nat) (hk : k < ps.length) : packL (ps.take (k + 1)) = packS (packL (ps.take k)) ps[k] := by
  have e : ps.take (k + 1) = ps.take k ++ [ps[k]] := by rw [List.take_add_one, List.getElem?_eq_getElem hk]; rfl
  unfold packL
  rw [e, List.foldl_append]
  rfl

theorem packS_len (l : List Mv) (p : Pr) : (packS l p).length ≤ l.length + 1 := by
  rcases List.eq_nil_or_concat l with rfl | ⟨l0, b, rfl⟩
  · rw [packS_nil]; simp
  · rw [List.concat_eq_append, packS_snoc]
    split <;> simp

theorem packL_len : ∀ (ps : List Pr) (l : List Mv), (ps.foldl packS l).length ≤ l.length + ps.length
  | [], l => by simp
  | p :: ps, l => by
    have h1 := packS_len l p
    have h2 := packL_len ps (packS l p)
    rw [List.foldl_cons, List.length_cons]
    omega

end Go.Proofs.YtdjljnpbnhampaaDoor

namespace Go.Proofs.YtdjljnpbnhampaaDoor
set_option linter.unusedVariables false

/-- The last attribute has no room for a VID. -/
def NoGo (L : List Mv) (v : Int) : Prop := ∀ (l : List Mv) (b : Mv), L = l ++ [b] → goesM b v = false

theorem NoGo.nil (v : Int) : NoGo [] v := fun l b h => by simp at h

theorem packS_nogo {L : List Mv} {p : Pr} (h : NoGo L p.vid) : packS L p = L ++ [⟨false, p.vid, [p.ev]⟩] := by
  rcases List.eq_nil_or_concat L with rfl | ⟨l, b, rfl⟩
  · rfl
  · rw [List.concat_eq_append] at h ⊢
    rw [packS_snoc, h l b rfl]
    simp

/-- The kth VID. -/
def vidN (ps : List Pr) (k : Nat) : Int := (ps.getD k zPr).vid

theorem vidN_get {ps : List Pr} {k : Nat} (hk : k < ps.length) : vidN ps k = ps[k].vid := by
  unfold vidN
  rw [List.getD_eq_getElem?_getD, List.getElem?_eq_getElem hk]
  rfl

/-- n VIDs one behind the other, from the ith on. -/
def RunN (ps : List Pr) (i n : Nat) : Prop := ∀ j, j + 1 < n → vidN ps (i + (j + 1)) = vidN ps (i + j) + 1

theorem RunN.one (ps : List Pr) (i : Nat) : RunN ps i 1 := fun j h => by omega

theorem RunN.more {ps : List Pr} {i n : Nat} (h : RunN ps i (n + 1)) (hv : vidN ps (i + (n + 1)) = vidN ps (i + n) + 1) : RunN ps i (n + 2) := fun j hj => by
  by_cases e : j = n
  · subst e; exact hv
  · exact h j (by omega)

theorem RunN.less {ps : List Pr} {i n : Nat} (h : RunN ps i (n + 1)) : RunN ps i n := fun j hj => h j (by omega)

theorem RunN.vid {ps : List Pr} {i n : Nat} (h : RunN ps i n) : ∀ j, j < n → vidN ps (i + j) = vidN ps i + (j : Int)
  | 0, _ => by simp
  | j + 1, hj => by
    rw [h j hj, RunN.vid h j (by omega)]
    omega

def evN (ps : List Pr) (i n : Nat) : List Int := ((ps.drop i).take n).map Pr.ev

theorem evN_len (ps : List Pr) (i n : Nat) (h : i + n ≤ ps.length) : (evN ps i n).length = n := by
  unfold evN
  rw [List.length_map, List.length_take, List.length_drop]
  omega

theorem evN_snoc (ps : List Pr) (i n : Nat) (h : i + n < ps.length) : evN ps i (n + 1) = evN ps i n ++ [ps[i + n].ev] := by
  unfold evN
  have hl : n < (ps.drop i).length := by rw [List.length_drop]; omega
  rw [List.take_add_one, List.getElem?_eq_getElem hl, List.map_append]
  simp

theorem pack_chunk (ps : List Pr) (i : Nat) (hi : NoGo (packL (ps.take i)) (vidN ps i)) : ∀ n, i + n < ps.length → n < 400 → RunN ps i (n + 1) → packL (ps.take (i + (n + 1))) = packL (ps.take i) ++ [⟨false, vidN ps i, evN ps i (n + 1)⟩]
  | 0, h, _, _ => by
    have h : i < ps.length := h
    rw [show i + (0 + 1) = i + 1 by omega, packL_snoc ps i h]
    rw [vidN_get h] at hi ⊢
    rw [packS_nogo hi, evN_snoc ps i 0 h]
    simp [evN]
  | n + 1, h, h4, hr => by
    have ih := pack_chunk ps i hi n (by omega) (by omega) hr.less
    have hl : i + (n + 1) < ps.length := h
    rw [show i + (n + 1 + 1) = i + (n + 1) + 1 by omega, packL_snoc ps (i + (n + 1)) hl, ih, packS_snoc]
    have hv := hr.vid (n + 1) (by omega)
    rw [vidN_get hl] at hv
    have hlen := evN_len ps i (n + 1) (by omega)
    have hg : goesM ⟨false, vidN ps i, evN ps i (n + 1)⟩ ps[i + (n + 1)].vid = true := by
      unfold goesM
      simp only [hlen, Bool.and_eq_true, beq_iff_eq, decide_eq_true_eq]
      exact ⟨hv.symm, h4⟩
    rw [if_pos hg, evN_snoc ps i (n + 1) hl]

theorem nogo_next (ps : List Pr) (i n : Nat) (hl : i + (n + 1) < ps.length) (L : List Mv) (hr : RunN ps i (n + 1)) (h : n + 1 = 400 ∨ vidN ps (i + (n + 1)) ≠ vidN ps (i + n) + 1) : NoGo (L ++ [⟨false, vidN ps i, evN ps i (n + 1)⟩]) (vidN ps (i + (n + 1))) := by
  intro l b e
  obtain ⟨-, e2⟩ := List.append_inj' e rfl
  obtain rfl : (⟨false, vidN ps i, evN ps i (n + 1)⟩ : Mv) = b := by simpa using e2
  have hlen := evN_len ps i (n + 1) (by omega)
  have hv := hr.vid n (by omega)
  unfold goesM
  simp only [hlen]
  rcases h with h | h
  · rw [h]
    simp
  · have : (vidN ps i + ((n + 1 : Nat) : Int) == vidN ps (i + (n + 1))) = false := by
      rw [beq_eq_false_iff_ne]
      omega
    rw [this]
    rfl

end Go.Proofs.YtdjljnpbnhampaaDoor

namespace Go.Proofs.YtdjljnpbnhampaaDoor
open Go
set_option linter.unusedVariables false
set_option linter.unusedSimpArgs false

section
variable {P : Program} {ops : Array Oper} {Q : Exit → Act → World → Prop} {md : Region.Mode} {S : World → Prop} {D : Nat → Bool}

def wpAnyS (P : Program) (md : Region.Mode) (ops : Array Oper) (Q : Exit → Act → World → Prop) (S : World → Prop) (D : Nat → Bool) : Nat → Array Bool → Act → World → Prop
  | 0, listed, a, w => Region.ready md ops listed = [] ∧ Q .normal a w
  | fuel + 1, listed, a, w =>
    (Region.ready md ops listed = [] → Q .normal a w) ∧
    ∀ i ∈ Region.ready md ops listed, wpOp P ops Q i (fun a' w' => (D i = true → wpAny P md ops Q fuel (listed.setIfInBounds i true) a' w') ∧ (D i = false → S w' ∧ wpAnyS P md ops Q S D fuel (listed.setIfInBounds i true) a' w')) a w

theorem wpAny_of_S : ∀ (fuel : Nat) (listed : Array Bool) (a : Act) (w : World), wpAnyS P md ops Q S D fuel listed a w → wpAny P md ops Q fuel listed a w
  | 0, _, _, _, h => h
  | fuel + 1, _, _, _, h => ⟨h.1, fun i hi => wpOp_mono (fun a' w' h' => by
      cases hD : D i with
      | true => exact h'.1 hD
      | false => exact wpAny_of_S fuel _ a' w' (h'.2 hD).2) (h.2 i hi)⟩

theorem wpAnyS_first {i : Nat} {oi : Oper} {v : Value} (hi : ops[i]? = some oi) (hsel : ∀ (j : Nat) (o : Oper) cs b, ops[j]? = some o → o.op ≠ .select cs b)
    (hQ : ∀ c a w, Q (.panic c) (a.put oi.dst v) w → Q (.panic c) a w) (hDi : D i = false)
    (hD : ∀ j oj, ops[j]? = some oj → D j = true → ∃ e ∈ oj.after, Region.binds md e = true ∧ e.on = i) :
    ∀ (fuel : Nat) (listed : Array Bool) (a : Act) (w : World),
      (∀ j oj, ops[j]? = some oj → j ≠ i → listed.getD j true = false → (∀ e ∈ oj.after, Region.binds md e = true → e.on ≠ i) → oi.apart ops oj = true) →
      i ∈ Region.ready md ops listed → YieldsIf P ops S oi v a → S w →
      wpAnyS P md ops Q S D fuel (listed.setIfInBounds i true) (a.put oi.dst v) w → wpAnyS P md ops Q S D (fuel + 1) listed a w := by
  intro fuel
  induction fuel with
  | zero =>
    intro listed a w _ hr hy hS H
    refine ⟨fun h => (by rw [h] at hr; cases hr), fun j hj => ?_⟩
    by_cases hji : j = i
    · subst hji
      exact hy.wpOp hi hS ⟨fun h => (by rw [hDi] at h; cases h), fun _ => ⟨hS, H⟩⟩
    · have := ready_mono hj hji
      rw [H.1] at this
      cases this
  | succ fuel ih =>
    intro listed a w hfree hr hy hS H
    refine ⟨fun h => (by rw [h] at hr; cases hr), fun j hj => ?_⟩
    by_cases hji : j = i
    · subst hji
      exact hy.wpOp hi hS ⟨fun h => (by rw [hDi] at h; cases h), fun _ => ⟨hS, H⟩⟩
    · have h1 := H.2 j (ready_mono hj hji)
      obtain ⟨hjun, oj, hoj, hall⟩ := mem_ready.1 hj
      have hnot : ∀ e ∈ oj.after, Region.binds md e = true → e.on ≠ i := fun e he hb heq => by
        have h1 := hall e he hb
        have h0 := (mem_ready.1 hr).1
        rw [heq] at h1
        rcases Nat.lt_or_ge i listed.size with h' | h'
        · simp [h'] at h0 h1; rw [h0] at h1; cases h1
        · simp [Array.getElem?_eq_none h'] at h1
      have hDj : D j = false := by
        cases hq : D j with
        | false => rfl
        | true =>
          obtain ⟨e, he, hb, heq⟩ := hD j oj hoj hq
          exact absurd heq (hnot e he hb)
      have h1' : wpOp P ops Q j (fun a' w' => S w' ∧ wpAnyS P md ops Q S D fuel ((listed.setIfInBounds i true).setIfInBounds j true) a' w') (a.put oi.dst v) w := wpOp_mono (fun a' w' h => h.2 hDj) h1
      have h2 := wpOp_putIf hoj (hfree j oj hoj hji hjun hnot) (fun cs b => hsel i oi cs b hi) (fun cs b => hsel j oj cs b hoj) hQ hy h1'
      have hfree' : ∀ k ok, ops[k]? = some ok → k ≠ i → (listed.setIfInBounds j true).getD k true = false →
          (∀ e ∈ ok.after, Region.binds md e = true → e.on ≠ i) → oi.apart ops ok = true := fun k ok hk hki hun hno => by
        refine hfree k ok hk hki ?_ hno
        by_cases hjk : j = k
        · subst hjk; exact hjun
        · rw [getD_set_ne true hjk] at hun; exact hun
      refine wpOp_mono (fun a' w' h3 => ⟨fun h => (by rw [hDj] at h; cases h), fun _ => ⟨h3.2.1, ih (listed.setIfInBounds j true) a' w' hfree' (ready_mono hr (Ne.symm hji)) h3.1 h3.2.1 ?_⟩⟩) h2
      rw [Array.setIfInBounds_comm _ _ hji]
      exact h3.2.2

theorem wpAnyS_first0 {i : Nat} {oi : Oper} {v : Value} (hi : ops[i]? = some oi) (hsel : ∀ (j : Nat) (o : Oper) cs b, ops[j]? = some o → o.op ≠ .select cs b)
    (hQ : ∀ c a w, Q (.panic c) (a.put oi.dst v) w → Q (.panic c) a w) (hDi : D i = false) :
    ∀ (fuel : Nat) (listed : Array Bool) (a : Act) (w : World),
      (∀ j oj, ops[j]? = some oj → j ≠ i → listed.getD j true = false → (∀ e ∈ oj.after, Region.binds md e = true → e.on ≠ i) → oi.apart ops oj = true) →
      i ∈ Region.ready md ops listed → Yields P ops oi v a → S w →
      wpAnyS P md ops Q S D fuel (listed.setIfInBounds i true) (a.put oi.dst v) w → wpAnyS P md ops Q S D (fuel + 1) listed a w := by
  intro fuel
  induction fuel with
  | zero =>
    intro listed a w _ hr hy hS H
    refine ⟨fun h => (by rw [h] at hr; cases hr), fun j hj => ?_⟩
    by_cases hji : j = i
    · subst hji
      exact (hy.yieldsIf (S := S)).wpOp hi hS ⟨fun h => (by rw [hDi] at h; cases h), fun _ => ⟨hS, H⟩⟩
    · have := ready_mono hj hji
      rw [H.1] at this
      cases this
  | succ fuel ih =>
    intro listed a w hfree hr hy hS H
    refine ⟨fun h => (by rw [h] at hr; cases hr), fun j hj => ?_⟩
    by_cases hji : j = i
    · subst hji
      exact (hy.yieldsIf (S := S)).wpOp hi hS ⟨fun h => (by rw [hDi] at h; cases h), fun _ => ⟨hS, H⟩⟩
    · have h1 := H.2 j (ready_mono hj hji)
      obtain ⟨hjun, oj, hoj, hall⟩ := mem_ready.1 hj
      have hnot : ∀ e ∈ oj.after, Region.binds md e = true → e.on ≠ i := fun e he hb heq => by
        have h1 := hall e he hb
        have h0 := (mem_ready.1 hr).1
        rw [heq] at h1
        rcases Nat.lt_or_ge i listed.size with h' | h'
        · simp [h'] at h0 h1; rw [h0] at h1; cases h1
        · simp [Array.getElem?_eq_none h'] at h1
      have h2 := wpOp_put hoj (hfree j oj hoj hji hjun hnot) (fun cs b => hsel i oi cs b hi) (fun cs b => hsel j oj cs b hoj) hQ hy h1
      have hfree' : ∀ k ok, ops[k]? = some ok → k ≠ i → (listed.setIfInBounds j true).getD k true = false →
          (∀ e ∈ ok.after, Region.binds md e = true → e.on ≠ i) → oi.apart ops ok = true := fun k ok hk hki hun hno => by
        refine hfree k ok hk hki ?_ hno
        by_cases hjk : j = k
        · subst hjk; exact hjun
        · rw [getD_set_ne true hjk] at hun; exact hun
      refine wpOp_mono (fun a' w' h3 => ⟨fun hDj => ?_, fun hDj => ?_⟩) h2
      · refine wpAny_first hi hsel hQ fuel (listed.setIfInBounds j true) a' w' hfree' (ready_mono hr (Ne.symm hji)) h3.1 ?_
        rw [Array.setIfInBounds_comm _ _ hji]
        exact h3.2.1 hDj
      · refine ⟨(h3.2.2 hDj).1, ih (listed.setIfInBounds j true) a' w' hfree' (ready_mono hr (Ne.symm hji)) h3.1 (h3.2.2 hDj).1 ?_⟩
        rw [Array.setIfInBounds_comm _ _ hji]
        exact (h3.2.2 hDj).2

/-- Every operation of D waits for number i. -/
def waitsD (md : Region.Mode) (ops : Array Oper) (D : Nat → Bool) (i : Nat) : Bool :=
  (List.range ops.size).all fun j => !(D j) || (match ops[j]? with | some oj => oj.after.toList.any (fun e => Region.binds md e && (e.on == i)) | none => true)

theorem waitsD_spec {i : Nat} (h : waitsD md ops D i = true) : ∀ j oj, ops[j]? = some oj → D j = true → ∃ e ∈ oj.after, Region.binds md e = true ∧ e.on = i := fun j oj hoj hD => by
  have hj : j < ops.size := (Array.getElem?_eq_some_iff.1 hoj).1
  have h1 := List.all_eq_true.1 h j (List.mem_range.2 hj)
  rw [hD, hoj] at h1
  simp only [Bool.not_true, Bool.false_or, List.any_eq_true, Bool.and_eq_true, beq_iff_eq] at h1
  obtain ⟨e, he, hb, heq⟩ := h1
  exact ⟨e, by simpa using he, hb, heq⟩

theorem wpAnyS_take {i : Nat} {oi : Oper} {v : Value} {fuel : Nat} {listed : Array Bool} {a : Act} {w : World} (hi : ops[i]? = some oi)
    (hs : Region.noSelect ops = true) (hf : Region.free md ops listed i = true) (hr : (Region.ready md ops listed).contains i = true) (hDi : D i = false) (hD : waitsD md ops D i = true)
    (hQ : ∀ c a w, Q (.panic c) (a.put oi.dst v) w → Q (.panic c) a w) (hy : YieldsIf P ops S oi v a) (hS : S w)
    (h : wpAnyS P md ops Q S D fuel (listed.setIfInBounds i true) (a.put oi.dst v) w) : wpAnyS P md ops Q S D (fuel + 1) listed a w :=
  wpAnyS_first hi (Region.noSelect_spec hs) hQ hDi (waitsD_spec hD) fuel listed a w (Region.free_spec hi hf) (by simpa using hr) hy hS h

theorem wpAnyS_take0 {i : Nat} {oi : Oper} {v : Value} {fuel : Nat} {listed : Array Bool} {a : Act} {w : World} (hi : ops[i]? = some oi)
    (hs : Region.noSelect ops = true) (hf : Region.free md ops listed i = true) (hr : (Region.ready md ops listed).contains i = true) (hDi : D i = false)
    (hQ : ∀ c a w, Q (.panic c) (a.put oi.dst v) w → Q (.panic c) a w) (hw : Region.wanted oi (yielded ops a.tmps) = true) (hy : ∀ w, (execOp a.eval oi).run P w = .ok (.value v) w) (hS : S w)
    (h : wpAnyS P md ops Q S D fuel (listed.setIfInBounds i true) (a.put oi.dst v) w) : wpAnyS P md ops Q S D (fuel + 1) listed a w :=
  wpAnyS_first0 hi (Region.noSelect_spec hs) hQ hDi fuel listed a w (Region.free_spec hi hf) (by simpa using hr) (Or.inl ⟨hw, hy⟩) hS h

/-- The only one that may come up. -/
theorem wpAnyS_one {r : Nat} {o : Oper} {fuel : Nat} {listed : Array Bool} {a : Act} {w : World} (hr : Region.ready md ops listed = [r]) (ho : ops[r]? = some o) (hw : Region.wanted o (yielded ops a.tmps) = true) (hD : D r = false)
    (h : ∀ K : Act → World → Prop, (∀ a' w', S w' → (S w' → wpAnyS P md ops Q S D fuel (listed.setIfInBounds r true) a' w') → K a' w') → o.wp P a w K Q) : wpAnyS P md ops Q S D (fuel + 1) listed a w := by
  refine ⟨fun h0 => (by rw [hr] at h0; cases h0), fun i hi => ?_⟩
  rw [hr] at hi
  obtain rfl := List.mem_singleton.1 hi
  unfold wpOp
  simp only [ho, hw, if_true]
  exact Or.inl (h _ fun a' w' h1 h2 => ⟨fun q => (by rw [hD] at q; cases q), fun _ => ⟨h1, h2 h1⟩⟩)

theorem wpAnyS_last {r : Nat} {o : Oper} {fuel : Nat} {listed : Array Bool} {a : Act} {w : World} (hr : Region.ready md ops listed = [r]) (ho : ops[r]? = some o) (hw : Region.wanted o (yielded ops a.tmps) = true) (hD : D r = true)
    (h : ∀ K : Act → World → Prop, (∀ a' w', wpAny P md ops Q fuel (listed.setIfInBounds r true) a' w' → K a' w') → o.wp P a w K Q) : wpAnyS P md ops Q S D (fuel + 1) listed a w := by
  refine ⟨fun h0 => (by rw [hr] at h0; cases h0), fun i hi => ?_⟩
  rw [hr] at hi
  obtain rfl := List.mem_singleton.1 hi
  unfold wpOp
  simp only [ho, hw, if_true]
  exact Or.inl (h _ fun a' w' h1 => ⟨fun _ => h1, fun q => (by rw [hD] at q; cases q)⟩)

theorem wpAny_one {r : Nat} {o : Oper} {fuel : Nat} {listed : Array Bool} {a : Act} {w : World} (hr : Region.ready md ops listed = [r]) (ho : ops[r]? = some o) (hw : Region.wanted o (yielded ops a.tmps) = true)
    (h : ∀ K : Act → World → Prop, (∀ a' w', wpAny P md ops Q fuel (listed.setIfInBounds r true) a' w' → K a' w') → o.wp P a w K Q) : wpAny P md ops Q (fuel + 1) listed a w := by
  refine ⟨fun h0 => (by rw [hr] at h0; cases h0), fun i hi => ?_⟩
  rw [hr] at hi
  obtain rfl := List.mem_singleton.1 hi
  unfold wpOp
  simp only [ho, hw, if_true]
  exact Or.inl (h _ fun a' w' h1 => h1)

theorem wp_region_S {id : Nat} {a : Act} {w : World} (S : World → Prop) (D : Nat → Bool) (hm : P.follows .mixedOrders = true) (h0 : S w.drew)
    (h : S w.drew → wpAnyS P .any ops Q S D ops.size (Array.replicate ops.size false) a w.drew) : (Code.region id ops true).wp P Q a w :=
  wp_region_any hm (wpAny_of_S _ _ _ _ (h h0))
end

end Go.Proofs.YtdjljnpbnhampaaDoor

namespace Go.Proofs.YtdjljnpbnhampaaDoor
open Go
set_option linter.unusedVariables false
set_option linter.unusedSimpArgs false

section
variable {P : Program} {ops : Array Oper} {Q : Exit → Act → World → Prop} {md : Region.Mode} {S T : World → Prop} {D : Nat → Bool}

def wpAnyT (P : Program) (md : Region.Mode) (ops : Array Oper) (Q : Exit → Act → World → Prop) (S T : World → Prop) (D : Nat → Bool) : Nat → Array Bool → Act → World → Prop
  | 0, listed, a, w => Region.ready md ops listed = [] ∧ Q .normal a w
  | fuel + 1, listed, a, w =>
    (Region.ready md ops listed = [] → Q .normal a w) ∧
    ∀ i ∈ Region.ready md ops listed, wpOp P ops Q i (fun a' w' => (D i = true → T w' ∧ wpAnyH P md ops Q T fuel (listed.setIfInBounds i true) a' w') ∧ (D i = false → (S w' ∧ T w') ∧ wpAnyT P md ops Q S T D fuel (listed.setIfInBounds i true) a' w')) a w

theorem wpAny_of_T : ∀ (fuel : Nat) (listed : Array Bool) (a : Act) (w : World), wpAnyT P md ops Q S T D fuel listed a w → wpAny P md ops Q fuel listed a w
  | 0, _, _, _, h => h
  | fuel + 1, _, _, _, h => ⟨h.1, fun i hi => wpOp_mono (fun a' w' h' => by
      cases hD : D i with
      | true => exact wpAny_of_held fuel _ a' w' (h'.1 hD).2
      | false => exact wpAny_of_T fuel _ a' w' (h'.2 hD).2) (h.2 i hi)⟩

theorem wpAnyT_first {i : Nat} {oi : Oper} {v : Value} (hi : ops[i]? = some oi) (hsel : ∀ (j : Nat) (o : Oper) cs b, ops[j]? = some o → o.op ≠ .select cs b)
    (hQ : ∀ c a w, Q (.panic c) (a.put oi.dst v) w → Q (.panic c) a w) (hDi : D i = false)
    (hD : ∀ j oj, ops[j]? = some oj → D j = true → ∃ e ∈ oj.after, Region.binds md e = true ∧ e.on = i) :
    ∀ (fuel : Nat) (listed : Array Bool) (a : Act) (w : World),
      (∀ j oj, ops[j]? = some oj → j ≠ i → listed.getD j true = false → (∀ e ∈ oj.after, Region.binds md e = true → e.on ≠ i) → oi.apart ops oj = true) →
      i ∈ Region.ready md ops listed → YieldsIf P ops S oi v a → S w ∧ T w →
      wpAnyT P md ops Q S T D fuel (listed.setIfInBounds i true) (a.put oi.dst v) w → wpAnyT P md ops Q S T D (fuel + 1) listed a w := by
  intro fuel
  induction fuel with
  | zero =>
    intro listed a w _ hr hy hS H
    refine ⟨fun h => (by rw [h] at hr; cases hr), fun j hj => ?_⟩
    by_cases hji : j = i
    · subst hji
      exact hy.wpOp hi hS.1 ⟨fun h => (by rw [hDi] at h; cases h), fun _ => ⟨hS, H⟩⟩
    · have := ready_mono hj hji
      rw [H.1] at this
      cases this
  | succ fuel ih =>
    intro listed a w hfree hr hy hS H
    refine ⟨fun h => (by rw [h] at hr; cases hr), fun j hj => ?_⟩
    by_cases hji : j = i
    · subst hji
      exact hy.wpOp hi hS.1 ⟨fun h => (by rw [hDi] at h; cases h), fun _ => ⟨hS, H⟩⟩
    · have h1 := H.2 j (ready_mono hj hji)
      obtain ⟨hjun, oj, hoj, hall⟩ := mem_ready.1 hj
      have hnot : ∀ e ∈ oj.after, Region.binds md e = true → e.on ≠ i := fun e he hb heq => by
        have h1 := hall e he hb
        have h0 := (mem_ready.1 hr).1
        rw [heq] at h1
        rcases Nat.lt_or_ge i listed.size with h' | h'
        · simp [h'] at h0 h1; rw [h0] at h1; cases h1
        · simp [Array.getElem?_eq_none h'] at h1
      have hDj : D j = false := by
        cases hq : D j with
        | false => rfl
        | true =>
          obtain ⟨e, he, hb, heq⟩ := hD j oj hoj hq
          exact absurd heq (hnot e he hb)
      have h1' : wpOp P ops Q j (fun a' w' => (S w' ∧ T w') ∧ wpAnyT P md ops Q S T D fuel ((listed.setIfInBounds i true).setIfInBounds j true) a' w') (a.put oi.dst v) w := wpOp_mono (fun a' w' h => h.2 hDj) h1
      have h2 := wpOp_putIf hoj (hfree j oj hoj hji hjun hnot) (fun cs b => hsel i oi cs b hi) (fun cs b => hsel j oj cs b hoj) hQ hy h1'
      have hfree' : ∀ k ok, ops[k]? = some ok → k ≠ i → (listed.setIfInBounds j true).getD k true = false →
          (∀ e ∈ ok.after, Region.binds md e = true → e.on ≠ i) → oi.apart ops ok = true := fun k ok hk hki hun hno => by
        refine hfree k ok hk hki ?_ hno
        by_cases hjk : j = k
        · subst hjk; exact hjun
        · rw [getD_set_ne true hjk] at hun; exact hun
      refine wpOp_mono (fun a' w' h3 => ⟨fun h => (by rw [hDj] at h; cases h), fun _ => ⟨h3.2.1, ih (listed.setIfInBounds j true) a' w' hfree' (ready_mono hr (Ne.symm hji)) h3.1 h3.2.1 ?_⟩⟩) h2
      rw [Array.setIfInBounds_comm _ _ hji]
      exact h3.2.2

theorem wpAnyT_firstT {i : Nat} {oi : Oper} {v : Value} (hi : ops[i]? = some oi) (hsel : ∀ (j : Nat) (o : Oper) cs b, ops[j]? = some o → o.op ≠ .select cs b)
    (hQ : ∀ c a w, Q (.panic c) (a.put oi.dst v) w → Q (.panic c) a w) (hDi : D i = false) :
    ∀ (fuel : Nat) (listed : Array Bool) (a : Act) (w : World),
      (∀ j oj, ops[j]? = some oj → j ≠ i → listed.getD j true = false → (∀ e ∈ oj.after, Region.binds md e = true → e.on ≠ i) → oi.apart ops oj = true) →
      i ∈ Region.ready md ops listed → YieldsIf P ops T oi v a → S w ∧ T w →
      wpAnyT P md ops Q S T D fuel (listed.setIfInBounds i true) (a.put oi.dst v) w → wpAnyT P md ops Q S T D (fuel + 1) listed a w := by
  intro fuel
  induction fuel with
  | zero =>
    intro listed a w _ hr hy hS H
    refine ⟨fun h => (by rw [h] at hr; cases hr), fun j hj => ?_⟩
    by_cases hji : j = i
    · subst hji
      exact hy.wpOp hi hS.2 ⟨fun h => (by rw [hDi] at h; cases h), fun _ => ⟨hS, H⟩⟩
    · have := ready_mono hj hji
      rw [H.1] at this
      cases this
  | succ fuel ih =>
    intro listed a w hfree hr hy hS H
    refine ⟨fun h => (by rw [h] at hr; cases hr), fun j hj => ?_⟩
    by_cases hji : j = i
    · subst hji
      exact hy.wpOp hi hS.2 ⟨fun h => (by rw [hDi] at h; cases h), fun _ => ⟨hS, H⟩⟩
    · have h1 := H.2 j (ready_mono hj hji)
      obtain ⟨hjun, oj, hoj, hall⟩ := mem_ready.1 hj
      have hnot : ∀ e ∈ oj.after, Region.binds md e = true → e.on ≠ i := fun e he hb heq => by
        have h1 := hall e he hb
        have h0 := (mem_ready.1 hr).1
        rw [heq] at h1
        rcases Nat.lt_or_ge i listed.size with h' | h'
        · simp [h'] at h0 h1; rw [h0] at h1; cases h1
        · simp [Array.getElem?_eq_none h'] at h1
      have h2 := wpOp_putIf hoj (hfree j oj hoj hji hjun hnot) (fun cs b => hsel i oi cs b hi) (fun cs b => hsel j oj cs b hoj) hQ hy h1
      have hfree' : ∀ k ok, ops[k]? = some ok → k ≠ i → (listed.setIfInBounds j true).getD k true = false →
          (∀ e ∈ ok.after, Region.binds md e = true → e.on ≠ i) → oi.apart ops ok = true := fun k ok hk hki hun hno => by
        refine hfree k ok hk hki ?_ hno
        by_cases hjk : j = k
        · subst hjk; exact hjun
        · rw [getD_set_ne true hjk] at hun; exact hun
      refine wpOp_mono (fun a' w' h3 => ⟨fun hDj => ?_, fun hDj => ?_⟩) h2
      · refine ⟨(h3.2.1 hDj).1, wpAnyH_first hi hsel hQ fuel (listed.setIfInBounds j true) a' w' hfree' (ready_mono hr (Ne.symm hji)) h3.1 (h3.2.1 hDj).1 ?_⟩
        rw [Array.setIfInBounds_comm _ _ hji]
        exact (h3.2.1 hDj).2
      · refine ⟨(h3.2.2 hDj).1, ih (listed.setIfInBounds j true) a' w' hfree' (ready_mono hr (Ne.symm hji)) h3.1 (h3.2.2 hDj).1 ?_⟩
        rw [Array.setIfInBounds_comm _ _ hji]
        exact (h3.2.2 hDj).2

theorem wpAnyT_take {i : Nat} {oi : Oper} {v : Value} {fuel : Nat} {listed : Array Bool} {a : Act} {w : World} (hi : ops[i]? = some oi)
    (hs : Region.noSelect ops = true) (hf : Region.free md ops listed i = true) (hr : (Region.ready md ops listed).contains i = true) (hDi : D i = false) (hD : waitsD md ops D i = true)
    (hQ : ∀ c a w, Q (.panic c) (a.put oi.dst v) w → Q (.panic c) a w) (hy : YieldsIf P ops S oi v a) (hS : S w ∧ T w)
    (h : wpAnyT P md ops Q S T D fuel (listed.setIfInBounds i true) (a.put oi.dst v) w) : wpAnyT P md ops Q S T D (fuel + 1) listed a w :=
  wpAnyT_first hi (Region.noSelect_spec hs) hQ hDi (waitsD_spec hD) fuel listed a w (Region.free_spec hi hf) (by simpa using hr) hy hS h

theorem wpAnyT_takeT {i : Nat} {oi : Oper} {v : Value} {fuel : Nat} {listed : Array Bool} {a : Act} {w : World} (hi : ops[i]? = some oi)
    (hs : Region.noSelect ops = true) (hf : Region.free md ops listed i = true) (hr : (Region.ready md ops listed).contains i = true) (hDi : D i = false)
    (hQ : ∀ c a w, Q (.panic c) (a.put oi.dst v) w → Q (.panic c) a w) (hy : YieldsIf P ops T oi v a) (hS : S w ∧ T w)
    (h : wpAnyT P md ops Q S T D fuel (listed.setIfInBounds i true) (a.put oi.dst v) w) : wpAnyT P md ops Q S T D (fuel + 1) listed a w :=
  wpAnyT_firstT hi (Region.noSelect_spec hs) hQ hDi fuel listed a w (Region.free_spec hi hf) (by simpa using hr) hy hS h

/-- The only one that may come up. -/
theorem wpAnyT_one {r : Nat} {o : Oper} {fuel : Nat} {listed : Array Bool} {a : Act} {w : World} (hr : Region.ready md ops listed = [r]) (ho : ops[r]? = some o) (hw : Region.wanted o (yielded ops a.tmps) = true) (hD : D r = false)
    (h : ∀ K : Act → World → Prop, (∀ a' w', S w' ∧ T w' → (S w' ∧ T w' → wpAnyT P md ops Q S T D fuel (listed.setIfInBounds r true) a' w') → K a' w') → o.wp P a w K Q) : wpAnyT P md ops Q S T D (fuel + 1) listed a w := by
  refine ⟨fun h0 => (by rw [hr] at h0; cases h0), fun i hi => ?_⟩
  rw [hr] at hi
  obtain rfl := List.mem_singleton.1 hi
  unfold wpOp
  simp only [ho, hw, if_true]
  exact Or.inl (h _ fun a' w' h1 h2 => ⟨fun q => (by rw [hD] at q; cases q), fun _ => ⟨h1, h2 h1⟩⟩)

theorem wpAnyT_last {r : Nat} {o : Oper} {fuel : Nat} {listed : Array Bool} {a : Act} {w : World} (hr : Region.ready md ops listed = [r]) (ho : ops[r]? = some o) (hw : Region.wanted o (yielded ops a.tmps) = true) (hD : D r = true)
    (h : ∀ K : Act → World → Prop, (∀ a' w', T w' → (T w' → wpAnyH P md ops Q T fuel (listed.setIfInBounds r true) a' w') → K a' w') → o.wp P a w K Q) : wpAnyT P md ops Q S T D (fuel + 1) listed a w := by
  refine ⟨fun h0 => (by rw [hr] at h0; cases h0), fun i hi => ?_⟩
  rw [hr] at hi
  obtain rfl := List.mem_singleton.1 hi
  unfold wpOp
  simp only [ho, hw, if_true]
  exact Or.inl (h _ fun a' w' h1 h2 => ⟨fun _ => ⟨h1, h2 h1⟩, fun q => (by rw [hD] at q; cases q)⟩)

theorem wp_region_T {id : Nat} {a : Act} {w : World} (S T : World → Prop) (D : Nat → Bool) (hm : P.follows .mixedOrders = true) (h0 : S w.drew ∧ T w.drew)
    (h : S w.drew ∧ T w.drew → wpAnyT P .any ops Q S T D ops.size (Array.replicate ops.size false) a w.drew) : (Code.region id ops true).wp P Q a w :=
  wp_region_any hm (wpAny_of_T _ _ _ _ (h h0))
end

end Go.Proofs.YtdjljnpbnhampaaDoor

namespace Go.Proofs.YtdjljnpbnhampaaDoor
open Go.RowKit
attribute [local go_sem ↓] Go.wp_at_zero Go.wp_at_succ
set_option linter.unusedSimpArgs false
set_option linter.unusedVariables false
set_option maxRecDepth 100000

theorem pk_first {ps : List Pr} {k : Nat} (h : ∀ p ∈ ps.take k, okPr p) : ∀ x ∈ packL (ps.take k), okPk x := fold_pk _ [] h (by simp)

theorem pk_ne : ∀ (ps : List Pr) (l : List Mv), l ≠ [] → ps.foldl packS l ≠ []
  | [], l, h => h
  | p :: ps, l, h => pk_ne ps _ (by
    rcases List.eq_nil_or_concat l with rfl | ⟨l0, b, rfl⟩
    · exact absurd rfl h
    · rw [List.concat_eq_append, packS_snoc]
      split <;> simp)

theorem packL_ne {ps : List Pr} {k : Nat} (h0 : 0 < k) (hk : k ≤ ps.length) : packL (ps.take k) ≠ [] := by
  obtain ⟨p, l, rfl⟩ : ∃ p l, ps = p :: l := by
    cases ps with
    | nil => simp at hk; omega
    | cons p l => exact ⟨p, l, rfl⟩
  obtain ⟨k, rfl⟩ : ∃ j, k = j + 1 := ⟨k - 1, by omega⟩
  rw [List.take_succ_cons]
  exact pk_ne (l.take k) _ (by rw [packS_nil]; simp)

theorem packL_at0 (ps : List Pr) : packL (ps.take 0) = [] := by rw [List.take_zero]; rfl

/-- What is answered. -/
def PkRes (w' : World) (base : Nat) (v : Value) (ps : List Pr) (e0 : Int) : Prop := (e0 = 0 ∧ PkSt w' base v (packL ps)) ∨ (e0 ≠ 0 ∧ v = .slice none 0 0)

/-- The call's two results. -/
def PkEnd (w w' : World) (ps : List Pr) (e0 pl : Int) (e : Ending) : Prop := ∃ v er, e = .returned (.tuple #[v, er]) ∧ ErrAs w' er e0 pl ∧ PkRes w' w.heap.size v ps e0 ∧ Below w.heap.size w w'

set_option maxHeartbeats 12800000 in
theorem mvPack_some (a : Option Addr) (c : Nat) (ps : List Pr) (m : Nat) (hm : m ≤ ps.length) (hok : ∀ (k : Nat) (hk : k < ps.length), k < m → badP ps k ps[k] = 0) (e0 pl : Int)
    (hend : (m = ps.length ∧ e0 = 0 ∧ pl = -1) ∨ (∃ hk : m < ps.length, badP ps m ps[m] = e0 ∧ e0 ≠ 0 ∧ pl = m)) (w : World) (h : PrIn w a ps) (hl : ps.length ≤ 90000) :
    Calls Tryd.prog 17 #[.slice a ps.length c] w fun e w' => PkEnd w w' ps e0 pl e := by
  obtain ⟨base, hbase⟩ : ∃ base, w.heap.size = base := ⟨_, rfl⟩
  have hb0 : Below base w w := Below.refl _ _
  have hP0 := PkSt.nil w base
  have HOK := Lib.hid hok
  have HEND := Lib.hid hend
  clear hok hend
  unfold PkEnd
  rw [hbase]
  go_enter Tryd.func17, Tryd.ntmps17
  go_wp2_with fail
  go_loopw [4, 11] (fun v i wr => ∃ (k : Nat) (v2 : Value), k ≤ m ∧ i = .int .i64 k ∧ v2 = v ∧ PkSt wr base v2 (packL (ps.take k)) ∧ Below base w wr) (fun _ i _ => ps.length - (intOf i).toNat)
  case atStart => exact ⟨0, _, by omega, rfl, rfl, by rw [packL_at0]; exact hP0, hb0⟩
  case round =>
    obtain ⟨k, v, hk, rfl, rfl, HP, Bk⟩ := hrel
    clear hP0 hb0
    by_cases hlt : k < ps.length
    · have hI := h.below (by rw [hbase]; exact Bk)
      obtain ⟨b, lo, rfl, hbl, hat⟩ := hI.at hlt
      have q1 : (k : Int) < (ps.length : Int) := by omega
      have q2 : decide ((k : Int) < (ps.length : Int)) = true := decide_eq_true q1
      have q3 : (0 : Int) ≤ (k : Int) := by omega
      have q4 : IntKind.i64.wrap ((k : Int) + 1) = (k : Int) + 1 := by rw [IntKind.wrap_i64] <;> omega
      have HK := hat k hlt
      have HPV : Hid (∀ j, k = j + 1 → wr.cell? ⟨b, lo + j * 2, none⟩ = some (.int .i64 (vidN ps j))) := fun j e => by
        have hj : j < ps.length := by omega
        have q := hat j hj 0 (.int .i64 ps[j].vid) rfl
        rw [Nat.add_zero] at q
        rw [vidN_get hj]
        exact q
      have HBD : Hid (badP ps k ps[k] = 0 ∨ k = m) := by
        show _ ∨ _
        by_cases e : k = m
        · exact Or.inr e
        · exact Or.inl (HOK.out k hlt (by omega))
      have HEN : Hid (k = m → badP ps k ps[k] = e0 ∧ e0 ≠ 0 ∧ pl = k) := fun e => by
        subst e
        rcases HEND.out with ⟨r1, _⟩ | ⟨_, r2, r3, r4⟩
        · omega
        · exact ⟨r2, r3, r4⟩
      have HKM : Hid (badP ps k ps[k] = 0 → k + 1 ≤ m) := fun e => by
        by_cases e1 : k = m
        · have := HEN.out e1
          omega
        · omega
      have HTK : Hid (∀ x ∈ packL (ps.take k), okPk x) := pk_first (take_okPr ps k (fun j hj hjk => HOK.out j hj (by omega)))
      have HSN := Lib.hid (packL_snoc ps k hlt)
      have HNE : Hid (0 < k → packL (ps.take k) ≠ []) := fun q => packL_ne q (by omega)
      have HZ : Hid (k = 0 → packL (ps.take k) = []) := fun q => by rw [q]; exact packL_at0 ps
      have HLN : Hid ((packL (ps.take k)).length ≤ 90000) := by
        show _ ≤ _
        have := packL_len (ps.take k) []
        rw [List.length_take] at this
        simp only [List.length_nil, Nat.zero_add] at this
        unfold packL
        omega
      have HB0 : Hid (badP ps k ps[k] = if 0 < k ∧ ps[k].vid ≤ vidN ps (k - 1) then 10 else if okPrB ps[k] then 0 else 1) := by
        show _ = _
        unfold badP
        rfl
      have hsw := Bk.size
      rw [hbase] at hsw
      generalize badP ps k ps[k] = bp at *
      generalize ps[k] = p at *
      generalize packL (ps.take k) = L at *
      clear hat hI HOK HEND
      have HA4 := Blk.new wr 84 (prC zPr)
      have b4 : Below wr.heap.size wr (wr.alloc (.cells (prC zPr) 84)) := (Below.refl _ _).alloc (Nat.le_refl _) _
      go_upto_region 5 with (first
        | (refine load_cells (B := b) (k := lo + k * 2) 84 (prC p) (by rfl) rfl rfl HK (by kernel_rfl) (by kernel_rfl) ?_)
        | (refine alloc_blk 84 (prC zPr) (by rfl) rfl Tryd.prZero ?_)
        | (refine store_blk (k := 0) 84 (.agg (prC p)) (prC p) (by rfl) rfl rfl rfl HA4 (by kernel_rfl) (show (2 : Nat) ≤ 2 from Nat.le_refl 2) (by rfl) (st_whole _ _ rfl) ?_; intro w5 HA5 b5 g5))
      have b05 := b4.trans b5
      have HP5 := HP.kept b05
      have B5 := Bk.trans (b05.mono hsw)
      have hs5 : wr.heap.size < w5.heap.size := HA5.lt
      have HPV5 : Hid (∀ j, k = j + 1 → w5.cell? ⟨b, lo + j * 2, none⟩ = some (.int .i64 (vidN ps j))) := fun j e => by
        have q := HPV.out j e
        have hbw : b < wr.heap.size := hbl
        rw [b05.cell (p := ⟨b, lo + j * 2, none⟩) hbw]
        exact q
      have hbw5 : b < w5.heap.size := Nat.lt_of_lt_of_le hbl b05.size
      have hb5 : base ≤ w5.heap.size := Nat.le_trans hsw b05.size
      clear HA4 b4 b5 g5 HK HP Bk HPV b05 hbl hsw
      generalize wr.heap.size = G at *
      have c0 := HA5.cv 0 (.int .i64 p.vid) rfl
      have c1 := HA5.cv 1 (.int .i64 p.ev) rfl
      go_upto_region 6 with (first
        | (refine sliceL_iv p.ev rfl rfl rfl ?_; intro w6 HE6 b6 s6; have HY6 := Blk.new w6 92 (mvC zMvH); have d6 : Below w6.heap.size w6 (w6.alloc (.cells (mvC zMvH) 92)) := (Below.refl _ _).alloc (Nat.le_refl _) _)
        | (refine build_blk (t := 92) (mvC ⟨⟨false, p.vid, [p.ev]⟩, some ⟨w5.heap.size, 0, none⟩, 1⟩) (by rfl) rfl (by kernel_rfl) ?_)
        | (refine alloc_blk 92 (mvC zMvH) (by rfl) rfl Tryd.mhZero ?_)
        | (refine store_blk (k := 0) 92 (.agg (mvC ⟨⟨false, p.vid, [p.ev]⟩, some ⟨w5.heap.size, 0, none⟩, 1⟩)) (mvC ⟨⟨false, p.vid, [p.ev]⟩, some ⟨w5.heap.size, 0, none⟩, 1⟩) (by rfl) rfl rfl rfl HY6 (by kernel_rfl) (show (3 : Nat) ≤ 3 from Nat.le_refl 3) (by rfl) (st_whole _ _ rfl) ?_; intro w7 HY7 b7 g7))
      have b67 := d6.trans b7
      have b57 := b6.trans (b67.mono b6.size)
      have HA7 := HA5.kept b57
      have HP7 := HP5.kept b57
      have B7 := B5.trans (b57.mono hb5)
      have HE7 := HE6.kept b67
      have HPV7 : Hid (∀ j, k = j + 1 → w7.cell? ⟨b, lo + j * 2, none⟩ = some (.int .i64 (vidN ps j))) := fun j e => by
        rw [b57.cell (p := ⟨b, lo + j * 2, none⟩) hbw5]
        exact HPV5.out j e
      have hb7 : base ≤ w7.heap.size := Nat.le_trans hb5 b57.size
      have hbw7 : b < w7.heap.size := Nat.lt_of_lt_of_le hbw5 b57.size
      have hGE : G < w5.heap.size := hs5
      have hEY : w5.heap.size < w6.heap.size := s6
      have hPall : Hid (∀ hs : List MvH, (∀ x ∈ hs, OwnIv w5 base (evV x) x.x.ev) → True) := fun _ _ => trivial
      have HEb : Hid (PkSt w5 base v L) := HP5
      have b57' := b57
      clear HE6 HY6 d6 b6 b7 g7 b67 B5 HPV5 c0 c1 HA5 HP5 hPall
      generalize w6.heap.size = Y at *
      have HIV := iv_one HE7
      have HR0 : Hid (∀ W, Below w7.heap.size w7 W → Calls Tryd.prog 22 #[.agg (mvC ⟨⟨false, p.vid, [p.ev]⟩, some ⟨w5.heap.size, 0, none⟩, 1⟩)] W fun e w' => e = .returned (.bool (okPrB p)) ∧ Below W.heap.size W w') := fun W hb => by
        have q := mvRight_any ⟨false, p.vid, [p.ev]⟩ (some ⟨w5.heap.size, 0, none⟩) 1 W ((ownIv_cap rfl HIV).1.below hb) (by unfold maxLen; simp)
        rw [okMv_one] at q
        exact q
      by_cases hk0 : k = 0
      · have hL0 := HZ.out hk0
        obtain ⟨rfl, hv⟩ : L = [] ∧ v = .slice none 0 0 := by
          refine ⟨hL0, ?_⟩
          rcases HEb.out with q | ⟨hs, y, D, q, _⟩
          · exact q.2
          · rw [hL0] at q; simp at q
        subst hv
        have hbq : bp = if okPrB p then 0 else 1 := by rw [HB0.out, if_neg (by omega)]
        have dk : decide ((0 : Int) < (k : Int)) = false := decide_eq_false (by omega)
        have dkN : decide (0 < k) = false := decide_eq_false (by omega)
        clear HB0 HPV7 HNE HTK
        replace hk0 := Lib.hid hk0
        have HY7d := HY7.drew
        refine wp_region_noPanic ?_
        refine wp_region_held_drew (S := (fun _ => True)) (by kernel_rfl) ?_ (fun hHeld => ?_)
        · exact trivial
        refine wpAnyH_take (i := 0) (v := ?_) rfl (by kernel_rfl) (by kernel_rfl) (by kernel_rfl) (fun _ _ _ h => h) (Or.inl ⟨by rfl, ?_⟩) (by assumption) ?_
        rotate_left
        · (intro w hSw; (try dsimp only at hSw); go_simp; (try with_reducible rfl))
        (try simp only [Act.put, List.getElem_toArray, List.getElem_cons_zero, List.getElem_cons_succ, List.setIfInBounds_toArray, List.set_cons_zero, List.set_cons_succ])
        refine wpAnyH_take (i := 1) (v := ?_) rfl (by kernel_rfl) (by kernel_rfl) (by kernel_rfl) (fun _ _ _ h => h) (Or.inl ⟨by rfl, ?_⟩) (by assumption) ?_
        rotate_left
        · (intro w hSw; (try dsimp only at hSw); go_simp; (try with_reducible rfl))
        (try simp only [Act.put, List.getElem_toArray, List.getElem_cons_zero, List.getElem_cons_succ, List.setIfInBounds_toArray, List.set_cons_zero, List.set_cons_succ])
        refine wpAnyH_take (i := 2) (v := ?_) rfl (by kernel_rfl) (by kernel_rfl) (by kernel_rfl) (fun _ _ _ h => h) (Or.inl ⟨by rfl, ?_⟩) (by assumption) ?_
        rotate_left
        · (intro w hSw; (try dsimp only at hSw); go_simp; (try with_reducible rfl))
        (try simp only [Act.put, List.getElem_toArray, List.getElem_cons_zero, List.getElem_cons_succ, List.setIfInBounds_toArray, List.set_cons_zero, List.set_cons_succ])
        refine wpAnyH_take (i := 3) (v := undef) rfl (by kernel_rfl) (by kernel_rfl) (by kernel_rfl) (fun _ _ _ h => h) (Or.inr ⟨by rfl, rfl⟩) (by assumption) ?_
        (try simp only [Act.put, List.getElem_toArray, List.getElem_cons_zero, List.getElem_cons_succ, List.setIfInBounds_toArray, List.set_cons_zero, List.set_cons_succ])
        refine wpAnyH_take (i := 4) (v := undef) rfl (by kernel_rfl) (by kernel_rfl) (by kernel_rfl) (fun _ _ _ h => h) (Or.inr ⟨by rfl, rfl⟩) (by assumption) ?_
        (try simp only [Act.put, List.getElem_toArray, List.getElem_cons_zero, List.getElem_cons_succ, List.setIfInBounds_toArray, List.set_cons_zero, List.set_cons_succ])
        refine wpAnyH_take (i := 5) (v := undef) rfl (by kernel_rfl) (by kernel_rfl) (by kernel_rfl) (fun _ _ _ h => h) (Or.inr ⟨by rfl, rfl⟩) (by assumption) ?_
        (try simp only [Act.put, List.getElem_toArray, List.getElem_cons_zero, List.getElem_cons_succ, List.setIfInBounds_toArray, List.set_cons_zero, List.set_cons_succ])
        refine wpAnyH_take (i := 6) (v := undef) rfl (by kernel_rfl) (by kernel_rfl) (by kernel_rfl) (fun _ _ _ h => h) (Or.inr ⟨by rfl, rfl⟩) (by assumption) ?_
        (try simp only [Act.put, List.getElem_toArray, List.getElem_cons_zero, List.getElem_cons_succ, List.setIfInBounds_toArray, List.set_cons_zero, List.set_cons_succ])
        refine wpAnyH_take (i := 7) (v := undef) rfl (by kernel_rfl) (by kernel_rfl) (by kernel_rfl) (fun _ _ _ h => h) (Or.inr ⟨by rfl, rfl⟩) (by assumption) ?_
        (try simp only [Act.put, List.getElem_toArray, List.getElem_cons_zero, List.getElem_cons_succ, List.setIfInBounds_toArray, List.set_cons_zero, List.set_cons_succ])
        refine wpAnyH_take (i := 8) (v := undef) rfl (by kernel_rfl) (by kernel_rfl) (by kernel_rfl) (fun _ _ _ h => h) (Or.inr ⟨by rfl, rfl⟩) (by assumption) ?_
        (try simp only [Act.put, List.getElem_toArray, List.getElem_cons_zero, List.getElem_cons_succ, List.setIfInBounds_toArray, List.set_cons_zero, List.set_cons_succ])
        refine wpAnyH_take (i := 9) (v := undef) rfl (by kernel_rfl) (by kernel_rfl) (by kernel_rfl) (fun _ _ _ h => h) (Or.inr ⟨by rfl, rfl⟩) (by assumption) ?_
        (try simp only [Act.put, List.getElem_toArray, List.getElem_cons_zero, List.getElem_cons_succ, List.setIfInBounds_toArray, List.set_cons_zero, List.set_cons_succ])
        refine wpAnyH_take (i := 10) (v := undef) rfl (by kernel_rfl) (by kernel_rfl) (by kernel_rfl) (fun _ _ _ h => h) (Or.inr ⟨by rfl, rfl⟩) (by assumption) ?_
        (try simp only [Act.put, List.getElem_toArray, List.getElem_cons_zero, List.getElem_cons_succ, List.setIfInBounds_toArray, List.set_cons_zero, List.set_cons_succ])
        refine wpAnyH_take (i := 11) (v := undef) rfl (by kernel_rfl) (by kernel_rfl) (by kernel_rfl) (fun _ _ _ h => h) (Or.inr ⟨by rfl, rfl⟩) (by assumption) ?_
        (try simp only [Act.put, List.getElem_toArray, List.getElem_cons_zero, List.getElem_cons_succ, List.setIfInBounds_toArray, List.set_cons_zero, List.set_cons_succ])
        refine wpAnyH_take (i := 12) (v := ?_) rfl (by kernel_rfl) (by kernel_rfl) (by kernel_rfl) (fun _ _ _ h => h) (Or.inl ⟨by rfl, ?_⟩) (by assumption) ?_
        rotate_left
        · (intro w hSw; (try dsimp only at hSw); go_simp; (try with_reducible rfl))
        (try simp only [Act.put, List.getElem_toArray, List.getElem_cons_zero, List.getElem_cons_succ, List.setIfInBounds_toArray, List.set_cons_zero, List.set_cons_succ])
        refine wpAnyH_take (i := 13) (v := ?_) rfl (by kernel_rfl) (by kernel_rfl) (by kernel_rfl) (fun _ _ _ h => h) (Or.inl ⟨by rfl, ?_⟩) (by assumption) ?_
        rotate_left
        · (intro w hSw; (try dsimp only at hSw); go_simp; (try with_reducible rfl))
        (try simp only [Act.put, List.getElem_toArray, List.getElem_cons_zero, List.getElem_cons_succ, List.setIfInBounds_toArray, List.set_cons_zero, List.set_cons_succ])
        refine wpAnyH_done (by kernel_rfl) ?_ _
        refine NoPanic.normal ?_
        go_wp2_with (refine load_blk (k := 0) 92 (mvC ⟨⟨false, p.vid, [p.ev]⟩, some ⟨w5.heap.size, 0, none⟩, 1⟩) (by rfl) rfl rfl HY7d (by kernel_rfl) (by kernel_rfl) rfl ?_)
        refine (HR0.out _ ((Below.refl w7.heap.size w7).drew)).mono ?_
        rintro e w8 ⟨rfl, b8⟩
        have b8' : Below w7.heap.size w7 w8 := ((Below.refl w7.heap.size w7).drew).trans b8
        have HY8 := HY7.kept b8'
        have HA8 := HA7.kept b8'
        have HE8 := HE7.kept b8'
        have HP8 := HP7.kept b8'
        have B8 := B7.trans (b8'.mono hb7)
        have hb8 : base ≤ w8.heap.size := Nat.le_trans hb7 b8'.size
        have h78 := b8'.size
        by_cases hpb : okPrB p = true
        · rw [hpb]
          rw [hpb, if_pos rfl] at hbq
          have hb0 : bp = 0 := hbq
          have hM0 : IntKind.i64.wrap ((0 : Int) - 1) = -1 := by decide
          go_upto_region 11 with (fail)
          refine wp_region_noPanic ?_
          refine wp_region_held_drew (S := (fun _ => True)) (by kernel_rfl) ?_ (fun hHeld => ?_)
          · exact trivial
          refine wpAnyH_take (i := 0) (v := ?_) rfl (by kernel_rfl) (by kernel_rfl) (by kernel_rfl) (fun _ _ _ h => h) (Or.inl ⟨by rfl, ?_⟩) (by assumption) ?_
          rotate_left
          · (intro w hSw; (try dsimp only at hSw); go_simp; (try with_reducible rfl))
          (try simp only [Act.put, List.getElem_toArray, List.getElem_cons_zero, List.getElem_cons_succ, List.setIfInBounds_toArray, List.set_cons_zero, List.set_cons_succ])
          refine wpAnyH_take (i := 1) (v := ?_) rfl (by kernel_rfl) (by kernel_rfl) (by kernel_rfl) (fun _ _ _ h => h) (Or.inl ⟨by rfl, ?_⟩) (by assumption) ?_
          rotate_left
          · (intro w hSw; (try dsimp only at hSw); go_simp; (try with_reducible rfl))
          (try simp only [Act.put, List.getElem_toArray, List.getElem_cons_zero, List.getElem_cons_succ, List.setIfInBounds_toArray, List.set_cons_zero, List.set_cons_succ])
          refine wpAnyH_take (i := 2) (v := ?_) rfl (by kernel_rfl) (by kernel_rfl) (by kernel_rfl) (fun _ _ _ h => h) (Or.inl ⟨by rfl, ?_⟩) (by assumption) ?_
          rotate_left
          · (intro w hSw; (try dsimp only at hSw); go_simp; (try with_reducible rfl))
          (try simp only [Act.put, List.getElem_toArray, List.getElem_cons_zero, List.getElem_cons_succ, List.setIfInBounds_toArray, List.set_cons_zero, List.set_cons_succ])
          refine wpAnyH_take (i := 3) (v := undef) rfl (by kernel_rfl) (by kernel_rfl) (by kernel_rfl) (fun _ _ _ h => h) (Or.inr ⟨by rfl, rfl⟩) (by assumption) ?_
          (try simp only [Act.put, List.getElem_toArray, List.getElem_cons_zero, List.getElem_cons_succ, List.setIfInBounds_toArray, List.set_cons_zero, List.set_cons_succ])
          refine wpAnyH_take (i := 4) (v := undef) rfl (by kernel_rfl) (by kernel_rfl) (by kernel_rfl) (fun _ _ _ h => h) (Or.inr ⟨by rfl, rfl⟩) (by assumption) ?_
          (try simp only [Act.put, List.getElem_toArray, List.getElem_cons_zero, List.getElem_cons_succ, List.setIfInBounds_toArray, List.set_cons_zero, List.set_cons_succ])
          refine wpAnyH_take (i := 5) (v := undef) rfl (by kernel_rfl) (by kernel_rfl) (by kernel_rfl) (fun _ _ _ h => h) (Or.inr ⟨by rfl, rfl⟩) (by assumption) ?_
          (try simp only [Act.put, List.getElem_toArray, List.getElem_cons_zero, List.getElem_cons_succ, List.setIfInBounds_toArray, List.set_cons_zero, List.set_cons_succ])
          refine wpAnyH_take (i := 6) (v := undef) rfl (by kernel_rfl) (by kernel_rfl) (by kernel_rfl) (fun _ _ _ h => h) (Or.inr ⟨by rfl, rfl⟩) (by assumption) ?_
          (try simp only [Act.put, List.getElem_toArray, List.getElem_cons_zero, List.getElem_cons_succ, List.setIfInBounds_toArray, List.set_cons_zero, List.set_cons_succ])
          refine wpAnyH_take (i := 7) (v := undef) rfl (by kernel_rfl) (by kernel_rfl) (by kernel_rfl) (fun _ _ _ h => h) (Or.inr ⟨by rfl, rfl⟩) (by assumption) ?_
          (try simp only [Act.put, List.getElem_toArray, List.getElem_cons_zero, List.getElem_cons_succ, List.setIfInBounds_toArray, List.set_cons_zero, List.set_cons_succ])
          refine wpAnyH_take (i := 8) (v := undef) rfl (by kernel_rfl) (by kernel_rfl) (by kernel_rfl) (fun _ _ _ h => h) (Or.inr ⟨by rfl, rfl⟩) (by assumption) ?_
          (try simp only [Act.put, List.getElem_toArray, List.getElem_cons_zero, List.getElem_cons_succ, List.setIfInBounds_toArray, List.set_cons_zero, List.set_cons_succ])
          refine wpAnyH_take (i := 9) (v := undef) rfl (by kernel_rfl) (by kernel_rfl) (by kernel_rfl) (fun _ _ _ h => h) (Or.inr ⟨by rfl, rfl⟩) (by assumption) ?_
          (try simp only [Act.put, List.getElem_toArray, List.getElem_cons_zero, List.getElem_cons_succ, List.setIfInBounds_toArray, List.set_cons_zero, List.set_cons_succ])
          refine wpAnyH_take (i := 10) (v := ?_) rfl (by kernel_rfl) (by kernel_rfl) (by kernel_rfl) (fun _ _ _ h => h) (Or.inl ⟨by rfl, ?_⟩) (by assumption) ?_
          rotate_left
          · (intro w hSw; (try dsimp only at hSw); go_simp; (try with_reducible rfl))
          (try simp only [Act.put, List.getElem_toArray, List.getElem_cons_zero, List.getElem_cons_succ, List.setIfInBounds_toArray, List.set_cons_zero, List.set_cons_succ])
          refine wpAnyH_done (by kernel_rfl) ?_ _
          refine NoPanic.normal ?_
          have HYx := HY8.drew
          have HMx : OwnMh w8.drew base (.slice none 0 0) [] := OwnMh.nil _ _
          have HEx := HE8.drew
          have Bx := B8.drew
          have hbx : base ≤ w8.drew.heap.size := hb8
          have HLx : ([] : List MvH).length ≤ 100000 := by simp
          have hLx : ([] : List Mv) = xs [] := rfl
          have hevx : ∀ x ∈ ([] : List MvH), OwnIv w8.drew base (evV x) x.x.ev ∧ ∀ q, (evV x).ownBlock = some q → q < w5.heap.size := by simp
          have hnox : NoGoB [] p.vid := fun l b e => by simp at e
          go_wp2_with (first
            | (refine load_blk (k := 0) 92 (mvC ⟨⟨false, p.vid, [p.ev]⟩, some ⟨w5.heap.size, 0, none⟩, 1⟩) (by rfl) rfl rfl HYx (by kernel_rfl) (by kernel_rfl) rfl ?_)
            | (refine sliceL_mh ⟨⟨false, p.vid, [p.ev]⟩, some ⟨w5.heap.size, 0, none⟩, 1⟩ rfl rfl rfl ?_; intro wa HSa ba sa; have HMa := HMx.kept ba; have HEa := HEx.kept ba)
            | (refine appendL_mh ⟨⟨false, p.vid, [p.ev]⟩, some ⟨w5.heap.size, 0, none⟩, 1⟩ rfl rfl rfl rfl HMa HSa HLx (Nat.le_trans hbx ba.size) ?_; intro vb wb HMb bb gb))
          have Bb := (Bx.trans (ba.mono hbx)).trans bb
          have HPb := PkSt.alone (E := w5.heap.size) hLx HMa (fun x hx => ⟨(hevx x hx).1.kept ba, (hevx x hx).2⟩) hb5 HEa hnox HMb gb
          go_roundw
          case rel => exact ⟨k + 1, _, HKM.out hb0, by go_num, rfl, by rw [HSN.out]; exact HPb, Bb⟩
          case measure => simp [intOf]; omega
        · have hpb : okPrB p = false := by simpa using hpb
          rw [hpb]
          rw [hpb] at hbq
          obtain ⟨hen1, _, rfl⟩ := HEN.out (HBD.out.resolve_left (fun q => by rw [hbq] at q; exact absurd q (by decide)))
          obtain rfl : e0 = 1 := by rw [← hen1, hbq]; rfl
          have B8d := B8
          have F8 : Flt (w8.alloc (.cells #[.int .i64 1, .int .i64 k] 144)) w8.heap.size 1 k := heap_alloc_new w8 _
          have B8 := B8d.alloc hb8 (.cells #[.int .i64 1, .int .i64 k] 144)
          go_wp2
          go_ret2
          exact ⟨_, _, rfl, Or.inr ⟨by decide, _, rfl, F8⟩, Or.inr ⟨by decide, rfl⟩, B8⟩
      · obtain ⟨j, hj⟩ : ∃ j, k = j + 1 := ⟨k - 1, by omega⟩
        have HV7 := HPV7.out j hj
        obtain ⟨pv, hpv⟩ : ∃ pv, vidN ps j = pv := ⟨_, rfl⟩
        rw [hpv] at HV7
        have hb2 : bp = if p.vid ≤ pv then 10 else if okPrB p then 0 else 1 := by
          rw [HB0.out, show k - 1 = j by omega, hpv]
          by_cases q : p.vid ≤ pv
          · rw [if_pos ⟨by omega, q⟩, if_pos q]
          · rw [if_neg (fun r => q r.2), if_neg q]
        have dk : decide ((0 : Int) < (k : Int)) = true := decide_eq_true (by omega)
        have dkN : decide (0 < k) = true := decide_eq_true (by omega)
        have dj : IntKind.i64.wrap ((k : Int) - 1) = (j : Int) := by rw [IntKind.wrap_i64] <;> omega
        have dj2 : (j : Int) < (ps.length : Int) := by omega
        have dj3 : (0 : Int) ≤ (j : Int) := by omega
        have hne := HNE.out (by omega)
        have HY7d := HY7.drew
        replace hj := Lib.hid hj
        clear HB0 HPV7 HNE HZ hpv
        by_cases hord : p.vid ≤ pv
        · have dv : decide (p.vid ≤ pv) = true := decide_eq_true hord
          rw [if_pos hord] at hb2
          obtain ⟨hen1, _, rfl⟩ := HEN.out (HBD.out.resolve_left (fun q => by rw [hb2] at q; exact absurd q (by decide)))
          obtain rfl : e0 = 10 := by rw [← hen1, hb2]
          clear HEN HBD HKM HSN HTK HLN hen1
          refine wp_region_noPanic ?_
          refine wp_region_held_drew (S := (fun w' => Blk w' G 84 (prC p) ∧ w'.cell? ⟨b, lo + j * 2, none⟩ = some (.int .i64 pv))) (by kernel_rfl) ?_ (fun hHeld => ?_)
          · exact ⟨HA7.drew, HV7⟩
          refine wpAnyH_take (i := 0) (v := ?_) rfl (by kernel_rfl) (by kernel_rfl) (by kernel_rfl) (fun _ _ _ h => h) (Or.inl ⟨by rfl, ?_⟩) (by assumption) ?_
          rotate_left
          · (intro w hSw; (try dsimp only at hSw); go_simp; (try with_reducible rfl))
          (try simp only [Act.put, List.getElem_toArray, List.getElem_cons_zero, List.getElem_cons_succ, List.setIfInBounds_toArray, List.set_cons_zero, List.set_cons_succ])
          refine wpAnyH_take (i := 1) (v := ?_) rfl (by kernel_rfl) (by kernel_rfl) (by kernel_rfl) (fun _ _ _ h => h) (Or.inl ⟨by rfl, ?_⟩) (by assumption) ?_
          rotate_left
          · (intro w hSw; (try dsimp only at hSw); go_simp; (try with_reducible rfl))
          (try simp only [Act.put, List.getElem_toArray, List.getElem_cons_zero, List.getElem_cons_succ, List.setIfInBounds_toArray, List.set_cons_zero, List.set_cons_succ])
          refine wpAnyH_take (i := 2) (v := ?_) rfl (by kernel_rfl) (by kernel_rfl) (by kernel_rfl) (fun _ _ _ h => h) (Or.inl ⟨by rfl, ?_⟩) (by assumption) ?_
          rotate_left
          · (intro w hSw; (try dsimp only at hSw); go_simp; (try with_reducible rfl))
          (try simp only [Act.put, List.getElem_toArray, List.getElem_cons_zero, List.getElem_cons_succ, List.setIfInBounds_toArray, List.set_cons_zero, List.set_cons_succ])
          refine wpAnyH_take (i := 3) (v := ?_) rfl (by kernel_rfl) (by kernel_rfl) (by kernel_rfl) (fun _ _ _ h => h) (Or.inl ⟨by rfl, ?_⟩) (by assumption) ?_
          rotate_left
          · (intro w hSw; (try dsimp only at hSw); go_simp; (try with_reducible rfl))
          (try simp only [Act.put, List.getElem_toArray, List.getElem_cons_zero, List.getElem_cons_succ, List.setIfInBounds_toArray, List.set_cons_zero, List.set_cons_succ])
          refine wpAnyH_take (i := 4) (v := .int .i64 p.vid) rfl (by kernel_rfl) (by kernel_rfl) (by kernel_rfl) (fun _ _ _ h => h) (Or.inl ⟨by rfl, fun w hSw => by have c := hSw.1.cv 0 (.int .i64 p.vid) rfl; go_simp⟩) (by assumption) ?_
          (try simp only [Act.put, List.getElem_toArray, List.getElem_cons_zero, List.getElem_cons_succ, List.setIfInBounds_toArray, List.set_cons_zero, List.set_cons_succ])
          refine wpAnyH_take (i := 5) (v := ?_) rfl (by kernel_rfl) (by kernel_rfl) (by kernel_rfl) (fun _ _ _ h => h) (Or.inl ⟨by rfl, ?_⟩) (by assumption) ?_
          rotate_left
          · (intro w hSw; (try dsimp only at hSw); go_simp; (try with_reducible rfl))
          (try simp only [Act.put, List.getElem_toArray, List.getElem_cons_zero, List.getElem_cons_succ, List.setIfInBounds_toArray, List.set_cons_zero, List.set_cons_succ])
          refine wpAnyH_take (i := 6) (v := ?_) rfl (by kernel_rfl) (by kernel_rfl) (by kernel_rfl) (fun _ _ _ h => h) (Or.inl ⟨by rfl, ?_⟩) (by assumption) ?_
          rotate_left
          · (intro w hSw; (try dsimp only at hSw); go_simp; (try with_reducible rfl))
          (try simp only [Act.put, List.getElem_toArray, List.getElem_cons_zero, List.getElem_cons_succ, List.setIfInBounds_toArray, List.set_cons_zero, List.set_cons_succ])
          refine wpAnyH_take (i := 7) (v := ?_) rfl (by kernel_rfl) (by kernel_rfl) (by kernel_rfl) (fun _ _ _ h => h) (Or.inl ⟨by rfl, ?_⟩) (by assumption) ?_
          rotate_left
          · (intro w hSw; (try dsimp only at hSw); go_simp; (try with_reducible rfl))
          (try simp only [Act.put, List.getElem_toArray, List.getElem_cons_zero, List.getElem_cons_succ, List.setIfInBounds_toArray, List.set_cons_zero, List.set_cons_succ])
          refine wpAnyH_take (i := 8) (v := ?_) rfl (by kernel_rfl) (by kernel_rfl) (by kernel_rfl) (fun _ _ _ h => h) (Or.inl ⟨by rfl, ?_⟩) (by assumption) ?_
          rotate_left
          · (intro w hSw; (try dsimp only at hSw); go_simp; (try with_reducible rfl))
          (try simp only [Act.put, List.getElem_toArray, List.getElem_cons_zero, List.getElem_cons_succ, List.setIfInBounds_toArray, List.set_cons_zero, List.set_cons_succ])
          refine wpAnyH_take (i := 9) (v := ?_) rfl (by kernel_rfl) (by kernel_rfl) (by kernel_rfl) (fun _ _ _ h => h) (Or.inl ⟨by rfl, ?_⟩) (by assumption) ?_
          rotate_left
          · (intro w hSw; (try dsimp only at hSw); go_simp; (try with_reducible rfl))
          (try simp only [Act.put, List.getElem_toArray, List.getElem_cons_zero, List.getElem_cons_succ, List.setIfInBounds_toArray, List.set_cons_zero, List.set_cons_succ])
          refine wpAnyH_take (i := 10) (v := .int .i64 pv) rfl (by kernel_rfl) (by kernel_rfl) (by kernel_rfl) (fun _ _ _ h => h) (Or.inl ⟨by rfl, fun w hSw => by have c := hSw.2; go_simp⟩) (by assumption) ?_
          (try simp only [Act.put, List.getElem_toArray, List.getElem_cons_zero, List.getElem_cons_succ, List.setIfInBounds_toArray, List.set_cons_zero, List.set_cons_succ])
          refine wpAnyH_take (i := 11) (v := ?_) rfl (by kernel_rfl) (by kernel_rfl) (by kernel_rfl) (fun _ _ _ h => h) (Or.inl ⟨by rfl, ?_⟩) (by assumption) ?_
          rotate_left
          · (intro w hSw; (try dsimp only at hSw); go_simp; (try with_reducible rfl))
          (try simp only [Act.put, List.getElem_toArray, List.getElem_cons_zero, List.getElem_cons_succ, List.setIfInBounds_toArray, List.set_cons_zero, List.set_cons_succ])
          refine wpAnyH_take (i := 12) (v := ?_) rfl (by kernel_rfl) (by kernel_rfl) (by kernel_rfl) (fun _ _ _ h => h) (Or.inl ⟨by rfl, ?_⟩) (by assumption) ?_
          rotate_left
          · (intro w hSw; (try dsimp only at hSw); go_simp; (try with_reducible rfl))
          (try simp only [Act.put, List.getElem_toArray, List.getElem_cons_zero, List.getElem_cons_succ, List.setIfInBounds_toArray, List.set_cons_zero, List.set_cons_succ])
          refine wpAnyH_take (i := 13) (v := ?_) rfl (by kernel_rfl) (by kernel_rfl) (by kernel_rfl) (fun _ _ _ h => h) (Or.inl ⟨by rfl, ?_⟩) (by assumption) ?_
          rotate_left
          · (intro w hSw; (try dsimp only at hSw); go_simp; (try with_reducible rfl))
          (try simp only [Act.put, List.getElem_toArray, List.getElem_cons_zero, List.getElem_cons_succ, List.setIfInBounds_toArray, List.set_cons_zero, List.set_cons_succ])
          refine wpAnyH_done (by kernel_rfl) ?_ _
          refine NoPanic.normal ?_
          have B7d := B7.drew
          have hs7d : base ≤ w7.drew.heap.size := hb7
          have F8 : Flt (w7.drew.alloc (.cells #[.int .i64 10, .int .i64 k] 144)) w7.drew.heap.size 10 k := heap_alloc_new w7.drew _
          have B8 := B7d.alloc hs7d (.cells #[.int .i64 10, .int .i64 k] 144)
          go_wp2
          go_ret2
          exact ⟨_, _, rfl, Or.inr ⟨by decide, _, rfl, F8⟩, Or.inr ⟨by decide, rfl⟩, B8⟩
        · have dv : decide (p.vid ≤ pv) = false := decide_eq_false hord
          rw [if_neg hord] at hb2
          refine wp_region_noPanic ?_
          refine wp_region_held_drew (S := (fun w' => Blk w' G 84 (prC p) ∧ w'.cell? ⟨b, lo + j * 2, none⟩ = some (.int .i64 pv))) (by kernel_rfl) ?_ (fun hHeld => ?_)
          · exact ⟨HA7.drew, HV7⟩
          refine wpAnyH_take (i := 0) (v := ?_) rfl (by kernel_rfl) (by kernel_rfl) (by kernel_rfl) (fun _ _ _ h => h) (Or.inl ⟨by rfl, ?_⟩) (by assumption) ?_
          rotate_left
          · (intro w hSw; (try dsimp only at hSw); go_simp; (try with_reducible rfl))
          (try simp only [Act.put, List.getElem_toArray, List.getElem_cons_zero, List.getElem_cons_succ, List.setIfInBounds_toArray, List.set_cons_zero, List.set_cons_succ])
          refine wpAnyH_take (i := 1) (v := ?_) rfl (by kernel_rfl) (by kernel_rfl) (by kernel_rfl) (fun _ _ _ h => h) (Or.inl ⟨by rfl, ?_⟩) (by assumption) ?_
          rotate_left
          · (intro w hSw; (try dsimp only at hSw); go_simp; (try with_reducible rfl))
          (try simp only [Act.put, List.getElem_toArray, List.getElem_cons_zero, List.getElem_cons_succ, List.setIfInBounds_toArray, List.set_cons_zero, List.set_cons_succ])
          refine wpAnyH_take (i := 2) (v := ?_) rfl (by kernel_rfl) (by kernel_rfl) (by kernel_rfl) (fun _ _ _ h => h) (Or.inl ⟨by rfl, ?_⟩) (by assumption) ?_
          rotate_left
          · (intro w hSw; (try dsimp only at hSw); go_simp; (try with_reducible rfl))
          (try simp only [Act.put, List.getElem_toArray, List.getElem_cons_zero, List.getElem_cons_succ, List.setIfInBounds_toArray, List.set_cons_zero, List.set_cons_succ])
          refine wpAnyH_take (i := 3) (v := ?_) rfl (by kernel_rfl) (by kernel_rfl) (by kernel_rfl) (fun _ _ _ h => h) (Or.inl ⟨by rfl, ?_⟩) (by assumption) ?_
          rotate_left
          · (intro w hSw; (try dsimp only at hSw); go_simp; (try with_reducible rfl))
          (try simp only [Act.put, List.getElem_toArray, List.getElem_cons_zero, List.getElem_cons_succ, List.setIfInBounds_toArray, List.set_cons_zero, List.set_cons_succ])
          refine wpAnyH_take (i := 4) (v := .int .i64 p.vid) rfl (by kernel_rfl) (by kernel_rfl) (by kernel_rfl) (fun _ _ _ h => h) (Or.inl ⟨by rfl, fun w hSw => by have c := hSw.1.cv 0 (.int .i64 p.vid) rfl; go_simp⟩) (by assumption) ?_
          (try simp only [Act.put, List.getElem_toArray, List.getElem_cons_zero, List.getElem_cons_succ, List.setIfInBounds_toArray, List.set_cons_zero, List.set_cons_succ])
          refine wpAnyH_take (i := 5) (v := ?_) rfl (by kernel_rfl) (by kernel_rfl) (by kernel_rfl) (fun _ _ _ h => h) (Or.inl ⟨by rfl, ?_⟩) (by assumption) ?_
          rotate_left
          · (intro w hSw; (try dsimp only at hSw); go_simp; (try with_reducible rfl))
          (try simp only [Act.put, List.getElem_toArray, List.getElem_cons_zero, List.getElem_cons_succ, List.setIfInBounds_toArray, List.set_cons_zero, List.set_cons_succ])
          refine wpAnyH_take (i := 6) (v := ?_) rfl (by kernel_rfl) (by kernel_rfl) (by kernel_rfl) (fun _ _ _ h => h) (Or.inl ⟨by rfl, ?_⟩) (by assumption) ?_
          rotate_left
          · (intro w hSw; (try dsimp only at hSw); go_simp; (try with_reducible rfl))
          (try simp only [Act.put, List.getElem_toArray, List.getElem_cons_zero, List.getElem_cons_succ, List.setIfInBounds_toArray, List.set_cons_zero, List.set_cons_succ])
          refine wpAnyH_take (i := 7) (v := ?_) rfl (by kernel_rfl) (by kernel_rfl) (by kernel_rfl) (fun _ _ _ h => h) (Or.inl ⟨by rfl, ?_⟩) (by assumption) ?_
          rotate_left
          · (intro w hSw; (try dsimp only at hSw); go_simp; (try with_reducible rfl))
          (try simp only [Act.put, List.getElem_toArray, List.getElem_cons_zero, List.getElem_cons_succ, List.setIfInBounds_toArray, List.set_cons_zero, List.set_cons_succ])
          refine wpAnyH_take (i := 8) (v := ?_) rfl (by kernel_rfl) (by kernel_rfl) (by kernel_rfl) (fun _ _ _ h => h) (Or.inl ⟨by rfl, ?_⟩) (by assumption) ?_
          rotate_left
          · (intro w hSw; (try dsimp only at hSw); go_simp; (try with_reducible rfl))
          (try simp only [Act.put, List.getElem_toArray, List.getElem_cons_zero, List.getElem_cons_succ, List.setIfInBounds_toArray, List.set_cons_zero, List.set_cons_succ])
          refine wpAnyH_take (i := 9) (v := ?_) rfl (by kernel_rfl) (by kernel_rfl) (by kernel_rfl) (fun _ _ _ h => h) (Or.inl ⟨by rfl, ?_⟩) (by assumption) ?_
          rotate_left
          · (intro w hSw; (try dsimp only at hSw); go_simp; (try with_reducible rfl))
          (try simp only [Act.put, List.getElem_toArray, List.getElem_cons_zero, List.getElem_cons_succ, List.setIfInBounds_toArray, List.set_cons_zero, List.set_cons_succ])
          refine wpAnyH_take (i := 10) (v := .int .i64 pv) rfl (by kernel_rfl) (by kernel_rfl) (by kernel_rfl) (fun _ _ _ h => h) (Or.inl ⟨by rfl, fun w hSw => by have c := hSw.2; go_simp⟩) (by assumption) ?_
          (try simp only [Act.put, List.getElem_toArray, List.getElem_cons_zero, List.getElem_cons_succ, List.setIfInBounds_toArray, List.set_cons_zero, List.set_cons_succ])
          refine wpAnyH_take (i := 11) (v := ?_) rfl (by kernel_rfl) (by kernel_rfl) (by kernel_rfl) (fun _ _ _ h => h) (Or.inl ⟨by rfl, ?_⟩) (by assumption) ?_
          rotate_left
          · (intro w hSw; (try dsimp only at hSw); go_simp; (try with_reducible rfl))
          (try simp only [Act.put, List.getElem_toArray, List.getElem_cons_zero, List.getElem_cons_succ, List.setIfInBounds_toArray, List.set_cons_zero, List.set_cons_succ])
          refine wpAnyH_take (i := 12) (v := ?_) rfl (by kernel_rfl) (by kernel_rfl) (by kernel_rfl) (fun _ _ _ h => h) (Or.inl ⟨by rfl, ?_⟩) (by assumption) ?_
          rotate_left
          · (intro w hSw; (try dsimp only at hSw); go_simp; (try with_reducible rfl))
          (try simp only [Act.put, List.getElem_toArray, List.getElem_cons_zero, List.getElem_cons_succ, List.setIfInBounds_toArray, List.set_cons_zero, List.set_cons_succ])
          refine wpAnyH_take (i := 13) (v := ?_) rfl (by kernel_rfl) (by kernel_rfl) (by kernel_rfl) (fun _ _ _ h => h) (Or.inl ⟨by rfl, ?_⟩) (by assumption) ?_
          rotate_left
          · (intro w hSw; (try dsimp only at hSw); go_simp; (try with_reducible rfl))
          (try simp only [Act.put, List.getElem_toArray, List.getElem_cons_zero, List.getElem_cons_succ, List.setIfInBounds_toArray, List.set_cons_zero, List.set_cons_succ])
          refine wpAnyH_done (by kernel_rfl) ?_ _
          refine NoPanic.normal ?_
          go_wp2_with (refine load_blk (k := 0) 92 (mvC ⟨⟨false, p.vid, [p.ev]⟩, some ⟨w5.heap.size, 0, none⟩, 1⟩) (by rfl) rfl rfl HY7d (by kernel_rfl) (by kernel_rfl) rfl ?_)
          refine (HR0.out _ ((Below.refl w7.heap.size w7).drew)).mono ?_
          rintro e w8 ⟨rfl, b8⟩
          have b8' : Below w7.heap.size w7 w8 := ((Below.refl w7.heap.size w7).drew).trans b8
          have HY8 := HY7.kept b8'
          have HA8 := HA7.kept b8'
          have HE8 := HE7.kept b8'
          have HP8 := HP7.kept b8'
          have B8 := B7.trans (b8'.mono hb7)
          have hb8 : base ≤ w8.heap.size := Nat.le_trans hb7 b8'.size
          have h78 := b8'.size
          by_cases hpb : okPrB p = true
          · rw [hpb]
            rw [hpb, if_pos rfl] at hb2
            have hb0 := Lib.hid hb2
            obtain ⟨hs, y, D, hL, hM5, hbD, hDw, hev5, hI5, hall5⟩ := HEb.out.last hne
            have bb := b57'.trans (b8'.mono b57'.size)
            have hM8 := hM5.kept bb
            have hev8 : ∀ x ∈ hs, OwnIv w8 base (evV x) x.x.ev ∧ ∀ g, (evV x).ownBlock = some g → g < D := fun x hx => ⟨(hev5 x hx).1.kept bb, (hev5 x hx).2⟩
            have hI8 := hI5.kept bb
            have hall8 : ∀ x ∈ hs ++ [y], OwnIv w8 base (evV x) x.x.ev ∧ ∀ g, (evV x).ownBlock = some g → g < w5.heap.size := fun x hx => ⟨(hall5 x hx).1.kept bb, (hall5 x hx).2⟩
            have hyk : okPk y.x := HTK.out y.x (by rw [hL]; simp)
            have hyl : y.x.ev.length ≤ 400 := hyk.2.2.1
            have hyf : -100000 ≤ y.x.first ∧ y.x.first ≤ 100000 := by have q1 := hyk.2.2.2.1; have q2 := hyk.2.2.2.2.1; omega
            have hDw8 : D ≤ w8.heap.size := Nat.le_trans hDw bb.size
            have hlt2 : hs.length + 1 ≤ 90000 := by
              have := HLN.out
              rw [hL] at this
              simpa [xs] using this
            have HLL := Lib.hid hL
            have HL3 : Hid ((hs ++ [y]).length ≤ 100000) := by
              show _ ≤ _
              rw [List.length_append]
              show hs.length + 1 ≤ _
              omega
            clear HEb HTK HLN hM5 hev5 hI5 hall5 bb hL hDw HP7 HP8 HA7 HY7 HE7 HIV hb2 hyk
            obtain ⟨g, cap, cur, rfl, hbg, hcur, hcs, hcat, hrow⟩ := mh_last hM8
            have hgG : g ≠ G := blk_ne hcur HA8 (by decide)
            have HGO := Lib.hid (fun W => goesOn_any y.x y.a y.c p.vid W hyf hyl)
            obtain ⟨gb, hgb⟩ : ∃ gb, goesM y.x p.vid = gb := ⟨_, rfl⟩
            rw [hgb] at HGO
            replace HGO : Hid (∀ W, Calls Tryd.prog 63 #[.agg (mvC y), .int .i64 p.vid] W fun e w' => e = .returned (.bool gb) ∧ Below W.heap.size W w') := HGO
            have HNL := Lib.hid (show hs.length = hs.length from rfl)
            obtain ⟨n, hn⟩ : ∃ n, hs.length = n := ⟨_, rfl⟩
            rw [hn] at hcs hcat hrow hlt2 hM8 ⊢
            replace hn := Lib.hid hn
            clear HNL hyf
            have dN : IntKind.i64.wrap ((((n + 1 : Nat) : Nat) : Int) - 1) = (n : Int) := by rw [IntKind.wrap_i64] <;> omega
            have dN2 : (n : Int) < ((n + 1 : Nat) : Int) := by omega
            have dN3 : (0 : Int) ≤ (n : Int) := by omega
            have dN4 : decide ((0 : Int) ≤ (n : Int)) = true := decide_eq_true dN3
            obtain ⟨N, hN⟩ : ∃ N, n + 1 = N := ⟨_, rfl⟩
            rw [hN] at dN dN2 hrow hM8 ⊢
            replace hN := Lib.hid hN
            have hcatd : CellsAt w8.drew g (n * 3) (mvC y) := hcat
            go_upto_region 11 with (fail)
            refine wp_region_noPanic ?_
            refine wp_region_held_drew (S := (fun w' => CellsAt w' g (n * 3) (mvC y) ∧ Blk w' G 84 (prC p))) (by kernel_rfl) ?_ (fun hHeld => ?_)
            · exact ⟨hcatd, HA8.drew⟩
            refine wpAnyH_take (i := 0) (v := ?_) rfl (by kernel_rfl) (by kernel_rfl) (by kernel_rfl) (fun _ _ _ h => h) (Or.inl ⟨by rfl, ?_⟩) (by assumption) ?_
            rotate_left
            · (intro w hSw; (try dsimp only at hSw); go_simp; (try with_reducible rfl))
            (try simp only [Act.put, List.getElem_toArray, List.getElem_cons_zero, List.getElem_cons_succ, List.setIfInBounds_toArray, List.set_cons_zero, List.set_cons_succ])
            refine wpAnyH_take (i := 1) (v := ?_) rfl (by kernel_rfl) (by kernel_rfl) (by kernel_rfl) (fun _ _ _ h => h) (Or.inl ⟨by rfl, ?_⟩) (by assumption) ?_
            rotate_left
            · (intro w hSw; (try dsimp only at hSw); go_simp; (try with_reducible rfl))
            (try simp only [Act.put, List.getElem_toArray, List.getElem_cons_zero, List.getElem_cons_succ, List.setIfInBounds_toArray, List.set_cons_zero, List.set_cons_succ])
            refine wpAnyH_take (i := 2) (v := ?_) rfl (by kernel_rfl) (by kernel_rfl) (by kernel_rfl) (fun _ _ _ h => h) (Or.inl ⟨by rfl, ?_⟩) (by assumption) ?_
            rotate_left
            · (intro w hSw; (try dsimp only at hSw); go_simp; (try with_reducible rfl))
            (try simp only [Act.put, List.getElem_toArray, List.getElem_cons_zero, List.getElem_cons_succ, List.setIfInBounds_toArray, List.set_cons_zero, List.set_cons_succ])
            refine wpAnyH_take (i := 3) (v := ?_) rfl (by kernel_rfl) (by kernel_rfl) (by kernel_rfl) (fun _ _ _ h => h) (Or.inl ⟨by rfl, ?_⟩) (by assumption) ?_
            rotate_left
            · (intro w hSw; (try dsimp only at hSw); go_simp; (try with_reducible rfl))
            (try simp only [Act.put, List.getElem_toArray, List.getElem_cons_zero, List.getElem_cons_succ, List.setIfInBounds_toArray, List.set_cons_zero, List.set_cons_succ])
            refine wpAnyH_take (i := 4) (v := ?_) rfl (by kernel_rfl) (by kernel_rfl) (by kernel_rfl) (fun _ _ _ h => h) (Or.inl ⟨by rfl, ?_⟩) (by assumption) ?_
            rotate_left
            · (intro w hSw; (try dsimp only at hSw); go_simp; (try with_reducible rfl))
            (try simp only [Act.put, List.getElem_toArray, List.getElem_cons_zero, List.getElem_cons_succ, List.setIfInBounds_toArray, List.set_cons_zero, List.set_cons_succ])
            refine wpAnyH_take (i := 5) (v := ?_) rfl (by kernel_rfl) (by kernel_rfl) (by kernel_rfl) (fun _ _ _ h => h) (Or.inl ⟨by rfl, ?_⟩) (by assumption) ?_
            rotate_left
            · (intro w hSw; (try dsimp only at hSw); go_simp; (try with_reducible rfl))
            (try simp only [Act.put, List.getElem_toArray, List.getElem_cons_zero, List.getElem_cons_succ, List.setIfInBounds_toArray, List.set_cons_zero, List.set_cons_succ])
            refine wpAnyH_take (i := 6) (v := .agg (mvC y)) rfl (by kernel_rfl) (by kernel_rfl) (by kernel_rfl) (fun _ _ _ h => h) (Or.inl ⟨by rfl, fun w hSw => exec_load_cells (k := n * 3) 92 (mvC y) rfl rfl hSw.1 (by kernel_rfl) (by kernel_rfl)⟩) (by assumption) ?_
            (try simp only [Act.put, List.getElem_toArray, List.getElem_cons_zero, List.getElem_cons_succ, List.setIfInBounds_toArray, List.set_cons_zero, List.set_cons_succ])
            refine wpAnyH_take (i := 7) (v := ?_) rfl (by kernel_rfl) (by kernel_rfl) (by kernel_rfl) (fun _ _ _ h => h) (Or.inl ⟨by rfl, ?_⟩) (by assumption) ?_
            rotate_left
            · (intro w hSw; (try dsimp only at hSw); go_simp; (try with_reducible rfl))
            (try simp only [Act.put, List.getElem_toArray, List.getElem_cons_zero, List.getElem_cons_succ, List.setIfInBounds_toArray, List.set_cons_zero, List.set_cons_succ])
            refine wpAnyH_take (i := 8) (v := .int .i64 p.vid) rfl (by kernel_rfl) (by kernel_rfl) (by kernel_rfl) (fun _ _ _ h => h) (Or.inl ⟨by rfl, fun w hSw => by have c := hSw.2.cv 0 (.int .i64 p.vid) rfl; go_simp⟩) (by assumption) ?_
            (try simp only [Act.put, List.getElem_toArray, List.getElem_cons_zero, List.getElem_cons_succ, List.setIfInBounds_toArray, List.set_cons_zero, List.set_cons_succ])
            refine wpAnyH_ready (rs := [9]) (by kernel_rfl) (by simp) ?_
            refine AllReadyH.cons rfl (fun K hK => ?_) AllReadyH.nil
            simp only [List.getElem_toArray, List.getElem_cons_zero, List.getElem_cons_succ]
            go_simp
            go_at_call 63; (with_reducible refine (HGO.out _).mono ?_); rintro e w9 ⟨rfl, b9⟩; have b9' := (Below.refl w8.heap.size w8).drew.trans b9; have hcat9 := hcat.below b9' hcur.lt; have HA9 := HA8.kept b9'
            refine hK.out _ _ ?_ (fun hHeld => ?_)
            · exact ⟨hcat9, HA9⟩
            clear hK K
            (try simp only [Act.put, List.getElem_toArray, List.getElem_cons_zero, List.getElem_cons_succ, List.setIfInBounds_toArray, List.set_cons_zero, List.set_cons_succ])
            refine wpAnyH_take (i := 10) (v := ?_) rfl (by kernel_rfl) (by kernel_rfl) (by kernel_rfl) (fun _ _ _ h => h) (Or.inl ⟨by rfl, ?_⟩) (by assumption) ?_
            rotate_left
            · (intro w hSw; (try dsimp only at hSw); go_simp; (try with_reducible rfl))
            (try simp only [Act.put, List.getElem_toArray, List.getElem_cons_zero, List.getElem_cons_succ, List.setIfInBounds_toArray, List.set_cons_zero, List.set_cons_succ])
            refine wpAnyH_done (by kernel_rfl) ?_ _
            refine NoPanic.normal ?_
            have HY9 := HY8.kept b9'
            have HE9 := HE8.kept b9'
            have hM9 := hM8.kept b9'
            have hI9 := hI8.kept b9'
            have hev9 : ∀ x ∈ hs, OwnIv w9 base (evV x) x.x.ev ∧ ∀ g, (evV x).ownBlock = some g → g < D := fun x hx => ⟨(hev8 x hx).1.kept b9', (hev8 x hx).2⟩
            have hall9 : ∀ x ∈ hs ++ [y], OwnIv w9 base (evV x) x.x.ev ∧ ∀ g, (evV x).ownBlock = some g → g < w5.heap.size := fun x hx => ⟨(hall8 x hx).1.kept b9', (hall8 x hx).2⟩
            have hrow9 := hrow.kept (grown0 b9') (Or.inr (by simp [Value.ownBlock]))
            have hcur9 := hcur.kept b9'
            have B9 := B8.trans (b9'.mono hb8)
            have hb9 : base ≤ w9.heap.size := Nat.le_trans hb8 b9'.size
            have hD9 : D ≤ w9.heap.size := Nat.le_trans hDw8 b9'.size
            clear HY8 HE8 hM8 hI8 hev8 hall8 hrow hcur B8 hcat hcatd HA8 b9 b9' HGO
            cases gb with
            | false =>
              have HYx := HY9
              have HMx : OwnMh w9 base (.slice (some ⟨g, 0, none⟩) N cap) (hs ++ [y]) := hM9
              have HEx := HE9
              have Bx := B9
              have hbx := hb9
              have HLx := HL3.out
              have hLx : L = xs (hs ++ [y]) := by rw [HLL.out, xs_last]
              have hevx := hall9
              have hnox : NoGoB L p.vid := by rw [HLL.out]; exact nogoB_last hgb
              replace hgb := Lib.hid hgb
              replace hLx := Lib.hid hLx
              clear hM9 hI9 hev9 hrow9 hcur9 hcat9 HA9
              go_wp2_with (first
                | (refine load_blk (k := 0) 92 (mvC ⟨⟨false, p.vid, [p.ev]⟩, some ⟨w5.heap.size, 0, none⟩, 1⟩) (by rfl) rfl rfl HYx (by kernel_rfl) (by kernel_rfl) rfl ?_)
                | (refine sliceL_mh ⟨⟨false, p.vid, [p.ev]⟩, some ⟨w5.heap.size, 0, none⟩, 1⟩ rfl rfl rfl ?_; intro wa HSa ba sa; have HMa := HMx.kept ba; have HEa := HEx.kept ba)
                | (refine appendL_mh ⟨⟨false, p.vid, [p.ev]⟩, some ⟨w5.heap.size, 0, none⟩, 1⟩ rfl rfl rfl rfl HMa HSa HLx (Nat.le_trans hbx ba.size) ?_; intro vb wb HMb bb gb))
              have Bb := (Bx.trans (ba.mono hbx)).trans bb
              have HPb := PkSt.alone (E := w5.heap.size) hLx.out HMa (fun x hx => ⟨(hevx x hx).1.kept ba, (hevx x hx).2⟩) hb5 HEa hnox HMb gb
              go_roundw
              case rel => exact ⟨k + 1, _, HKM.out hb0.out, by go_num, rfl, by rw [HSN.out]; exact HPb, Bb⟩
              case measure => simp [intOf]; omega
            | true =>
              have hEV : w9.cell? ⟨g, n * 3 + 2, none⟩ = some (.slice y.a y.x.ev.length y.c) := hcat9 2 _ rfl
              have hnc := Lib.hid (show n * 3 + 2 < cur.size by omega)
              replace hgb := Lib.hid hgb
              clear HY9 HE9 hall9 hM9
              go_upto_region 12 with (fail)
              refine wp_region_noPanic ?_
              refine wp_region_T (fun w' => w'.cell? ⟨g, n * 3 + 2, none⟩ = some (.slice y.a y.x.ev.length y.c)) (fun w' => Blk w' G 84 (prC p)) (fun j => j == 10) (by kernel_rfl) (⟨hEV, HA9.drew⟩) (fun hHeld => ?_)
              refine wpAnyT_takeT (i := 0) (v := ?_) rfl (by kernel_rfl) (by kernel_rfl) (by kernel_rfl) (by rfl) (fun _ _ _ h => h) (Or.inl ⟨by rfl, ?_⟩) (by assumption) ?_
              rotate_left
              · intro w hSw; clear hSw; go_simp; (try with_reducible rfl)
              (try simp only [Act.put, List.getElem_toArray, List.getElem_cons_zero, List.getElem_cons_succ, List.setIfInBounds_toArray, List.set_cons_zero, List.set_cons_succ])
              refine wpAnyT_takeT (i := 1) (v := ?_) rfl (by kernel_rfl) (by kernel_rfl) (by kernel_rfl) (by rfl) (fun _ _ _ h => h) (Or.inl ⟨by rfl, ?_⟩) (by assumption) ?_
              rotate_left
              · intro w hSw; clear hSw; go_simp; (try with_reducible rfl)
              (try simp only [Act.put, List.getElem_toArray, List.getElem_cons_zero, List.getElem_cons_succ, List.setIfInBounds_toArray, List.set_cons_zero, List.set_cons_succ])
              refine wpAnyT_takeT (i := 2) (v := ?_) rfl (by kernel_rfl) (by kernel_rfl) (by kernel_rfl) (by rfl) (fun _ _ _ h => h) (Or.inl ⟨by rfl, ?_⟩) (by assumption) ?_
              rotate_left
              · intro w hSw; clear hSw; go_simp; (try with_reducible rfl)
              (try simp only [Act.put, List.getElem_toArray, List.getElem_cons_zero, List.getElem_cons_succ, List.setIfInBounds_toArray, List.set_cons_zero, List.set_cons_succ])
              refine wpAnyT_takeT (i := 3) (v := ?_) rfl (by kernel_rfl) (by kernel_rfl) (by kernel_rfl) (by rfl) (fun _ _ _ h => h) (Or.inl ⟨by rfl, ?_⟩) (by assumption) ?_
              rotate_left
              · intro w hSw; clear hSw; go_simp; (try with_reducible rfl)
              (try simp only [Act.put, List.getElem_toArray, List.getElem_cons_zero, List.getElem_cons_succ, List.setIfInBounds_toArray, List.set_cons_zero, List.set_cons_succ])
              refine wpAnyT_takeT (i := 4) (v := ?_) rfl (by kernel_rfl) (by kernel_rfl) (by kernel_rfl) (by rfl) (fun _ _ _ h => h) (Or.inl ⟨by rfl, ?_⟩) (by assumption) ?_
              rotate_left
              · intro w hSw; clear hSw; go_simp; (try with_reducible rfl)
              (try simp only [Act.put, List.getElem_toArray, List.getElem_cons_zero, List.getElem_cons_succ, List.setIfInBounds_toArray, List.set_cons_zero, List.set_cons_succ])
              refine wpAnyT_takeT (i := 5) (v := ?_) rfl (by kernel_rfl) (by kernel_rfl) (by kernel_rfl) (by rfl) (fun _ _ _ h => h) (Or.inl ⟨by rfl, ?_⟩) (by assumption) ?_
              rotate_left
              · intro w hSw; clear hSw; go_simp; (try with_reducible rfl)
              (try simp only [Act.put, List.getElem_toArray, List.getElem_cons_zero, List.getElem_cons_succ, List.setIfInBounds_toArray, List.set_cons_zero, List.set_cons_succ])
              refine wpAnyT_takeT (i := 7) (v := ?_) rfl (by kernel_rfl) (by kernel_rfl) (by kernel_rfl) (by rfl) (fun _ _ _ h => h) (Or.inl ⟨by rfl, ?_⟩) (by assumption) ?_
              rotate_left
              · intro w hSw; clear hSw; go_simp; (try with_reducible rfl)
              (try simp only [Act.put, List.getElem_toArray, List.getElem_cons_zero, List.getElem_cons_succ, List.setIfInBounds_toArray, List.set_cons_zero, List.set_cons_succ])
              refine wpAnyT_take (i := 6) (v := (.slice y.a y.x.ev.length y.c)) rfl (by kernel_rfl) (by kernel_rfl) (by kernel_rfl) (by rfl) (by kernel_rfl) (fun _ _ _ h => h) (Or.inl ⟨by rfl, fun w hSw => by have c := hSw; go_simp⟩) (by assumption) ?_
              (try simp only [Act.put, List.getElem_toArray, List.getElem_cons_zero, List.getElem_cons_succ, List.setIfInBounds_toArray, List.set_cons_zero, List.set_cons_succ])
              refine wpAnyT_takeT (i := 8) (v := (.int .i64 p.ev)) rfl (by kernel_rfl) (by kernel_rfl) (by kernel_rfl) (by rfl) (fun _ _ _ h => h) (Or.inl ⟨by rfl, fun w hSw => by have c := hSw.cv 1 (.int .i64 p.ev) rfl; go_simp⟩) (by assumption) ?_
              (try simp only [Act.put, List.getElem_toArray, List.getElem_cons_zero, List.getElem_cons_succ, List.setIfInBounds_toArray, List.set_cons_zero, List.set_cons_succ])
              refine wpAnyT_one (r := 9) (by kernel_rfl) rfl (by rfl) (by rfl) (fun K hK => ?_)
              (try simp only [List.getElem_toArray, List.getElem_cons_zero, List.getElem_cons_succ])
              refine slice_iv p.ev rfl rfl (fun wa HSa ba sa => ?_)
              have ba' := (Below.refl w9.heap.size w9).drew.trans ba
              have HAa := HA9.kept ba'
              have hIa := hI9.kept ba'
              have heva : ∀ x ∈ hs, OwnIv wa base (evV x) x.x.ev ∧ ∀ g, (evV x).ownBlock = some g → g < D := fun x hx => ⟨(hev9 x hx).1.kept ba', (hev9 x hx).2⟩
              have hrowa := hrow9.kept (grown0 ba') (Or.inr (by simp [Value.ownBlock]))
              have hcura := hcur9.kept ba'
              have Ba := B9.trans (ba'.mono hb9)
              have hba : base ≤ wa.heap.size := Nat.le_trans hb9 ba'.size
              have hDa : D ≤ wa.heap.size := Nat.le_trans hD9 ba'.size
              have hEVa : wa.cell? ⟨g, n * 3 + 2, none⟩ = some (.slice y.a y.x.ev.length y.c) := (ba'.cell (p := ⟨g, n * 3 + 2, none⟩) hcur9.lt).trans hEV
              refine hK _ _ ?_ (fun hHeld => ?_)
              · exact ⟨hEVa, HAa⟩
              clear hK K
              (try simp only [Act.put, List.getElem_toArray, List.getElem_cons_zero, List.getElem_cons_succ, List.setIfInBounds_toArray, List.set_cons_zero, List.set_cons_succ])
              refine wpAnyT_last (r := 10) (by kernel_rfl) rfl (by rfl) (by rfl) (fun K hK => ?_)
              (try simp only [List.getElem_toArray, List.getElem_cons_zero, List.getElem_cons_succ])
              refine append_iv (v := evV y) p.ev rfl rfl rfl hIa HSa (by omega) hDa (fun vb wb Ob bb gbb => ?_)
              have Bb := Ba.trans (bb.mono hbD)
              have hcurb : Blk wb g 92 cur := by
                rcases hIa.blk with e | ⟨q, C, e, _, hq⟩
                · rw [e] at gbb; exact hcura.grown gbb (by simp)
                · rw [e] at gbb; exact hcura.grown gbb (by intro e2; cases e2; exact blk_ne hcura hq (by decide) rfl)
              have HAb : Blk wb G 84 (prC p) := by
                rcases hIa.blk with e | ⟨q, C, e, _, hq⟩
                · rw [e] at gbb; exact HAa.grown gbb (by simp)
                · rw [e] at gbb; exact HAa.grown gbb (by intro e2; cases e2; exact blk_ne HAa hq (by decide) rfl)
              obtain ⟨a3, c3, hv3, -⟩ := Ob.inL
              subst hv3
              have Ob2 := Lib.hid Ob
              obtain ⟨L3, hL3⟩ : ∃ L3, (y.x.ev ++ [p.ev]).length = L3 := ⟨_, rfl⟩
              rw [hL3] at Ob2 ⊢
              clear Ob hL3
              refine hK _ _ ?_ (fun hHeld => ?_)
              · exact HAb
              clear hK K
              (try simp only [Act.put, List.getElem_toArray, List.getElem_cons_zero, List.getElem_cons_succ, List.setIfInBounds_toArray, List.set_cons_zero, List.set_cons_succ])
              refine wpAnyH_take (i := 11) (v := ?_) rfl (by kernel_rfl) (by kernel_rfl) (by kernel_rfl) (fun _ _ _ h => h) (Or.inl ⟨by rfl, ?_⟩) (by assumption) ?_
              rotate_left
              · (intro w hSw; clear hSw; go_simp; (try with_reducible rfl))
              (try simp only [Act.put, List.getElem_toArray, List.getElem_cons_zero, List.getElem_cons_succ, List.setIfInBounds_toArray, List.set_cons_zero, List.set_cons_succ])
              refine wpAnyH_take (i := 12) (v := ?_) rfl (by kernel_rfl) (by kernel_rfl) (by kernel_rfl) (fun _ _ _ h => h) (Or.inl ⟨by rfl, ?_⟩) (by assumption) ?_
              rotate_left
              · (intro w hSw; clear hSw; go_simp; (try with_reducible rfl))
              (try simp only [Act.put, List.getElem_toArray, List.getElem_cons_zero, List.getElem_cons_succ, List.setIfInBounds_toArray, List.set_cons_zero, List.set_cons_succ])
              refine wpAnyH_ready (rs := [13]) (by kernel_rfl) (by simp) ?_
              refine AllReadyH.cons rfl (fun K hK => ?_) AllReadyH.nil
              simp only [List.getElem_toArray, List.getElem_cons_zero, List.getElem_cons_succ]
              rw [if_pos (by rfl)]
              refine wp_store_op (k := n * 3 + 2) 90 (.slice a3 L3 c3) (cur.setIfInBounds (n * 3 + 2) (.slice a3 L3 c3)) (by rfl) rfl rfl hcurb (by kernel_rfl) (by have := hnc.out; exact this) (by rfl) (st_cell _ _ _ _ rfl hnc.out rfl) (fun wc HCc bc gc => ?_)
              have HAc : Blk wc G 84 (prC p) := HAb.grown gc (by intro e; cases e; exact hgG rfl)
              have Bc := Bb.trans (bc.mono hbg)
              refine hK.out _ _ ?_ (fun hHeld => ?_)
              · exact HAc
              clear hK K
              (try simp only [Act.put, List.getElem_toArray, List.getElem_cons_zero, List.getElem_cons_succ, List.setIfInBounds_toArray, List.set_cons_zero, List.set_cons_succ])
              refine wpAnyH_done (by kernel_rfl) ?_ _
              refine NoPanic.normal ?_
              go_wp2_with fail
              go_roundw
              case rel => exact ⟨k + 1, _, HKM.out hb0.out, by go_num, rfl, by
                rw [HSN.out]
                have hN2 := hN.out
                subst hN2
                exact PkSt.go hn.out.symm HLL.out hgb.out hrowa hbg hcura hbD hDa heva hIa Ob2.out gbb gc HCc, Bc⟩
              case measure => simp [intOf]; omega
          · have hpb : okPrB p = false := by simpa using hpb
            rw [hpb]
            rw [hpb] at hb2
            obtain ⟨hen1, _, rfl⟩ := HEN.out (HBD.out.resolve_left (fun q => by rw [hb2] at q; exact absurd q (by decide)))
            obtain rfl : e0 = 1 := by rw [← hen1, hb2]; rfl
            have B8d := B8
            clear HEN HBD HKM HSN HTK HLN hen1
            have F8 : Flt (w8.alloc (.cells #[.int .i64 1, .int .i64 k] 144)) w8.heap.size 1 k := heap_alloc_new w8 _
            have B8 := B8d.alloc hb8 (.cells #[.int .i64 1, .int .i64 k] 144)
            go_wp2
            go_ret2
            exact ⟨_, _, rfl, Or.inr ⟨by decide, _, rfl, F8⟩, Or.inr ⟨by decide, rfl⟩, B8⟩
    · obtain rfl : k = ps.length := by omega
      obtain rfl : m = ps.length := by omega
      obtain ⟨rfl, rfl⟩ : e0 = 0 ∧ pl = -1 := by
        rcases HEND.out with ⟨_, r2, r3⟩ | ⟨r1, _⟩
        · exact ⟨r2, r3⟩
        · omega
      have q2 : decide ((ps.length : Int) < (ps.length : Int)) = false := decide_eq_false (by omega)
      rw [List.take_length] at HP
      go_wp2
      go_ret2
      exact ⟨_, _, rfl, Or.inl ⟨rfl, rfl, rfl⟩, Or.inl ⟨rfl, HP⟩, Bk⟩

end Go.Proofs.YtdjljnpbnhampaaDoor

namespace Go.Proofs.YtdjljnpbnhampaaDoor
open Go.RowKit
attribute [local go_sem ↓] Go.wp_at_zero Go.wp_at_succ
set_option linter.unusedSimpArgs false
set_option linter.unusedVariables false
set_option maxRecDepth 100000

theorem mvPack_ok (a : Option Addr) (c : Nat) (ps : List Pr) (hall : ∀ (k : Nat) (hk : k < ps.length), badP ps k ps[k] = 0) (w : World) (h : PrIn w a ps) (hl : ps.length ≤ 90000) :
    Calls Tryd.prog 17 #[.slice a ps.length c] w fun e w' => ∃ a2 c2 hs, e = .returned (.tuple #[.slice a2 hs.length c2, .nilIface]) ∧ xs hs = packL ps ∧ MvsIn w' a2 hs ∧ Below w.heap.size w w' := by
  refine (mvPack_some a c ps ps.length (Nat.le_refl _) (fun k hk _ => hall k hk) 0 (-1) (Or.inl ⟨rfl, rfl, rfl⟩) w h hl).mono ?_
  rintro e w' ⟨v, er, rfl, hE, hR, hb⟩
  obtain rfl := err_nil hE
  rcases hR with ⟨_, hP⟩ | ⟨q, _⟩
  · obtain ⟨hs, hx, hO⟩ := hP.asb
    obtain ⟨a2, c2, rfl, hm⟩ := ownAs_in hO
    exact ⟨a2, c2, hs, rfl, hx, hm, hb⟩
  · exact absurd rfl q

theorem mvPack_bad (a : Option Addr) (c : Nat) (ps : List Pr) (m : Nat) (hm : m < ps.length) (hb : badP ps m ps[m] ≠ 0) (hall : ∀ (k : Nat) (hk : k < ps.length), k < m → badP ps k ps[k] = 0) (w : World) (h : PrIn w a ps) (hl : ps.length ≤ 90000) :
    Calls Tryd.prog 17 #[.slice a ps.length c] w fun e w' => ∃ q, e = .returned (.tuple #[.slice none 0 0, .iface 142 (.pointer (some ⟨q, 0, none⟩))]) ∧ Flt w' q (badP ps m ps[m]) m ∧ Below w.heap.size w w' := by
  refine (mvPack_some a c ps m (Nat.le_of_lt hm) hall (badP ps m ps[m]) m (Or.inr ⟨hm, rfl, hb, rfl⟩) w h hl).mono ?_
  rintro e w' ⟨v, er, rfl, hE, hR, hbl⟩
  obtain ⟨q, rfl, hf⟩ := err_ne hE hb
  rcases hR with ⟨e0, _⟩ | ⟨_, rfl⟩
  · exact absurd e0 hb
  · exact ⟨q, rfl, hf, hbl⟩

/-- Where attributes may be, so may each of their VIDs. -/
theorem each_okPr : ∀ (l : List Mv), (∀ x ∈ l, okMv x = true) → ∀ p ∈ eachL l, okPrB p = true
  | [], _, p, hp => by simp [eachL] at hp
  | x :: l, h, p, hp => by
    rw [show eachL (x :: l) = prsF x.first 0 x.ev ++ eachL l from rfl] at hp
    rcases List.mem_append.1 hp with q | q
    · have hx := h x (by simp)
      by_cases h0 : x.ev = []
      · rw [h0] at q; simp [prsF] at q
      · obtain ⟨h1, h2, h3, h4⟩ := okMv_cons hx h0
        have hlen := List.length_pos_iff.2 h0
        rw [prsF_run x.first x.ev 0 (by omega) (by omega)] at q
        have key : ∀ (es : List Int) (v : Int), 1 ≤ v → v + (es.length : Int) ≤ 4095 → (∀ e ∈ es, 0 ≤ e ∧ e ≤ 5) → ∀ p ∈ runV v es, okPrB p = true := by
          intro es
          induction es with
          | nil => intro v _ _ _ p hp; simp [runV] at hp
          | cons e es ih =>
            intro v q1 q2 q3 p hp
            simp only [runV, List.mem_cons] at hp
            have q2' : v + ((es.length : Int) + 1) ≤ 4095 := by simpa using q2
            rcases hp with rfl | hp
            · have := q3 e (by simp)
              unfold okPrB okE5
              simp only [Bool.and_eq_true, decide_eq_true_eq]
              omega
            · exact ih (v + 1) (by omega) (by omega) (fun e he => q3 e (by simp [he])) p hp
        exact key x.ev _ (by omega) (by omega) h4 p q
    · exact each_okPr l (fun y hy => h y (by simp [hy])) p q

/-- What is packed of VIDs that may be and rise tells them. -/
theorem pack_tells (ps : List Pr) (h : ∀ p ∈ ps, okPr p) : eachL (packL ps) = ps := by
  have q := fold_tells ps [] (fun p hp => by have := h p hp; unfold okPr at this; omega)
  unfold packL
  rw [q]
  rfl

theorem pack_few (l : List Mv) (h : ∀ x ∈ l, okMv x = true) : (packL (eachL l)).length ≤ l.length := by
  have := pack_each l [] h (by simp)
  simpa [packL] using this

theorem each_len (l : List Mv) (h : ∀ x ∈ l, okMv x = true) : (eachL l).length ≤ 400 * l.length := by
  induction l with
  | nil => simp [eachL]
  | cons x l ih =>
    have h1 := okMv_len (h x (by simp))
    have h2 := ih (fun y hy => h y (by simp [hy]))
    rw [show eachL (x :: l) = prsF x.first 0 x.ev ++ eachL l from rfl, List.length_append, prsF_len, List.length_cons]
    omega

end Go.Proofs.YtdjljnpbnhampaaDoor

namespace Go.Proofs.YtdjljnpbnhampaaDoor
open Go.RowKit
attribute [local go_sem ↓] Go.wp_at_zero Go.wp_at_succ
set_option linter.unusedSimpArgs false
set_option linter.unusedVariables false
set_option maxRecDepth 100000

set_option maxHeartbeats 1600000 in
theorem mf_no (x : MvH) (w : World) (h : IvIn w x.a x.x.ev) (hl : x.x.ev.length ≤ maxLen) :
    Calls Tryd.prog 21 #[.agg (mvC x)] w fun e w' => e = .returned (.bool (!(okMv x.x))) ∧ Below w.heap.size w w' := by
  obtain ⟨⟨a1, f1, e1⟩, p1, c1⟩ := x
  simp only at *
  have hb0 : Below w.heap.size w (w.alloc (.cells #[.bool a1, .int .i64 f1, .slice p1 e1.length c1] 92)) := (Below.refl _ _).alloc (Nat.le_refl _) _
  have HR := Lib.hid (mvRight_any ⟨a1, f1, e1⟩ p1 c1 _ (h.below hb0) hl)
  unfold mvC at HR ⊢
  simp only at *
  clear h hl
  go_enter Tryd.func21, Tryd.ntmps21
  go_wp2_with fail
  refine HR.out.mono ?_
  rintro e w3 ⟨rfl, b3⟩
  go_wp2
  go_ret
  exact ⟨rfl, hb0.trans (b3.mono hb0.size)⟩

set_option maxHeartbeats 1600000 in
theorem mf_index (a : Option Addr) (c : Nat) (l : List MvH) (w : World) (h : MvsIn w a l) (hlen : l.length ≤ maxLen) :
    Calls Tryd.prog 66 #[.slice a l.length c, .func (.func 21) #[] #[]] w fun e w' => (∃ r : Int, e = .returned (.int .i64 r) ∧ decide ((0 : Int) ≤ r) = !((xs l).all okMv)) ∧ Below w.heap.size w w' := by
  have hll : l.length ≤ 9223372036854775807 := hlen
  have HNO := Lib.hid (fun (x : MvH) (W : World) (h1 : IvIn W x.a x.x.ev) (h2 : x.x.ev.length ≤ maxLen) => mf_no x W h1 h2)
  clear hlen
  go_enter Tryd.func66, Tryd.ntmps66
  go_wp2_with fail
  go_loopw [8] (fun i wr => ∃ k : Nat, k ≤ l.length ∧ i = .int .i64 k ∧ (∀ x ∈ l.take k, okMv x.x = true) ∧ Below w.heap.size w wr) (fun i _ => l.length - (intOf i).toNat)
  case atStart => exact ⟨0, by omega, rfl, by simp, Below.refl _ _⟩
  case round =>
    obtain ⟨k, hk, rfl, hall, Bk⟩ := hrel
    by_cases hlt : k < l.length
    · have hI := h.below Bk
      obtain ⟨b, lo, rfl, hbl, hat⟩ := hI.row.at hlt
      have q1 : (k : Int) < (l.length : Int) := by omega
      have q2 : decide ((k : Int) < (l.length : Int)) = true := decide_eq_true q1
      have q3 : (0 : Int) ≤ (k : Int) := by omega
      have q4 : IntKind.i64.wrap ((k : Int) + 1) = (k : Int) + 1 := by rw [IntKind.wrap_i64] <;> omega
      have HK := hat k hlt
      have hmem := List.getElem_mem hlt
      have hev := hI.ev _ hmem
      have hsn : l.take (k + 1) = l.take k ++ [l[k]] := by rw [List.take_add_one, List.getElem?_eq_getElem hlt]; rfl
      have HN2 := Lib.hid (HNO.out l[k] wr hev.1 (Nat.le_trans hev.2.1 hev.2.2))
      have HS := Lib.hid hsn
      have HME := Lib.hid hmem
      generalize l[k] = x at *
      clear hat hsn hmem h hI HNO hev
      go_wp2_with (refine load_cells (B := b) (k := lo + k * 3) 92 (mvC x) (by rfl) rfl rfl HK (by kernel_rfl) (by kernel_rfl) ?_)
      clear HK
      refine HN2.out.mono ?_
      rintro e w2 ⟨rfl, k2⟩
      have B2 := Bk.trans (k2.mono Bk.size)
      clear HN2
      cases hx : okMv x.x with
      | true =>
        have hd : (!true) = false := rfl
        go_wp2
        go_roundw
        case rel => exact ⟨k + 1, by omega, by go_num, by
          rw [HS.out]
          intro y hy
          rcases List.mem_append.1 hy with q | q
          · exact hall y q
          · rw [List.mem_singleton.1 q]; exact hx, B2⟩
        case measure => simp [intOf]; omega
      | false =>
        have hd : (!false) = true := rfl
        have hno : Hid ((xs l).all okMv = false) := by
          show _ = _
          rw [Bool.eq_false_iff]
          intro q
          have q2 := List.all_eq_true.1 q x.x (List.mem_map.2 ⟨x, HME.out, rfl⟩)
          rw [hx] at q2
          cases q2
        go_wp2
        go_ret
        refine ⟨⟨_, rfl, ?_⟩, B2⟩
        rw [hno.out]
        exact decide_eq_true q3
    · obtain rfl : k = l.length := by omega
      have q2 : decide ((l.length : Int) < (l.length : Int)) = false := decide_eq_false (by omega)
      have hyes : Hid ((xs l).all okMv = true) := by
        show _ = _
        rw [List.take_length] at hall
        rw [List.all_eq_true]
        intro y hy
        obtain ⟨z, hz, rfl⟩ := List.mem_map.1 hy
        exact hall z hz
      clear hall
      go_wp2
      go_ret
      refine ⟨⟨_, rfl, ?_⟩, Bk⟩
      rw [hyes.out]
      rfl

theorem mf_contains (a : Option Addr) (c : Nat) (l : List MvH) (w : World) (h : MvsIn w a l) (hlen : l.length ≤ maxLen) :
    Calls Tryd.prog 20 #[.slice a l.length c, .func (.func 21) #[] #[]] w fun e w' => e = .returned (.bool (!((xs l).all okMv))) ∧ Below w.heap.size w w' := by
  have HX := Lib.hid (mf_index a c l w h hlen)
  go_enter Tryd.func20, Tryd.ntmps20
  go_wp2_with fail
  refine HX.out.mono ?_
  rintro e w2 ⟨⟨r, rfl, hd⟩, b⟩
  go_wp2
  go_ret
  exact ⟨by rw [← hd]; rfl, b⟩

/-- May be, and is without LeaveAll. -/
def okMvN (x : Mv) : Bool := okMv x && !x.all

set_option maxHeartbeats 1600000 in
theorem mg_no (x : MvH) (w : World) (h : IvIn w x.a x.x.ev) (hl : x.x.ev.length ≤ maxLen) :
    Calls Tryd.prog 25 #[.agg (mvC x)] w fun e w' => e = .returned (.bool (!(okMvN x.x))) ∧ Below w.heap.size w w' := by
  obtain ⟨⟨a1, f1, e1⟩, p1, c1⟩ := x
  simp only at *
  have hb0 : Below w.heap.size w (w.alloc (.cells #[.bool a1, .int .i64 f1, .slice p1 e1.length c1] 92)) := (Below.refl _ _).alloc (Nat.le_refl _) _
  have HA := Blk.new w 92 #[.bool a1, .int .i64 f1, .slice p1 e1.length c1]
  have HR := Lib.hid (mvRight_any ⟨a1, f1, e1⟩ p1 c1 _ (h.below hb0) hl)
  unfold okMvN
  unfold mvC at HR ⊢
  simp only at *
  clear h hl
  obtain ⟨r, hr⟩ : ∃ r, okMv ⟨a1, f1, e1⟩ = r := ⟨_, rfl⟩
  rw [hr] at HR ⊢
  clear hr
  cases r with
  | false =>
    go_enter Tryd.func25, Tryd.ntmps25
    go_wp2_with fail
    refine HR.out.mono ?_
    rintro e w3 ⟨rfl, b3⟩
    have B3 := hb0.trans (b3.mono hb0.size)
    have hq : (!false) = true := rfl
    go_wp2
    go_ret
    exact ⟨rfl, B3⟩
  | true =>
    go_enter Tryd.func25, Tryd.ntmps25
    go_wp2_with fail
    refine HR.out.mono ?_
    rintro e w3 ⟨rfl, b3⟩
    have B3 := hb0.trans (b3.mono hb0.size)
    have c0 := (HA.kept b3).cv 0 (.bool a1) rfl
    clear HA hb0 b3
    have hq : (!true) = false := rfl
    go_wp2
    go_ret
    exact ⟨by simp, B3⟩

set_option maxHeartbeats 1600000 in
theorem mg_index (a : Option Addr) (c : Nat) (l : List MvH) (w : World) (h : MvsIn w a l) (hlen : l.length ≤ maxLen) :
    Calls Tryd.prog 66 #[.slice a l.length c, .func (.func 25) #[] #[]] w fun e w' => (∃ r : Int, e = .returned (.int .i64 r) ∧ decide ((0 : Int) ≤ r) = !((xs l).all okMvN)) ∧ Below w.heap.size w w' := by
  have hll : l.length ≤ 9223372036854775807 := hlen
  have HNO := Lib.hid (fun (x : MvH) (W : World) (h1 : IvIn W x.a x.x.ev) (h2 : x.x.ev.length ≤ maxLen) => mg_no x W h1 h2)
  clear hlen
  go_enter Tryd.func66, Tryd.ntmps66
  go_wp2_with fail
  go_loopw [8] (fun i wr => ∃ k : Nat, k ≤ l.length ∧ i = .int .i64 k ∧ (∀ x ∈ l.take k, okMvN x.x = true) ∧ Below w.heap.size w wr) (fun i _ => l.length - (intOf i).toNat)
  case atStart => exact ⟨0, by omega, rfl, by simp, Below.refl _ _⟩
  case round =>
    obtain ⟨k, hk, rfl, hall, Bk⟩ := hrel
    by_cases hlt : k < l.length
    · have hI := h.below Bk
      obtain ⟨b, lo, rfl, hbl, hat⟩ := hI.row.at hlt
      have q1 : (k : Int) < (l.length : Int) := by omega
      have q2 : decide ((k : Int) < (l.length : Int)) = true := decide_eq_true q1
      have q3 : (0 : Int) ≤ (k : Int) := by omega
      have q4 : IntKind.i64.wrap ((k : Int) + 1) = (k : Int) + 1 := by rw [IntKind.wrap_i64] <;> omega
      have HK := hat k hlt
      have hmem := List.getElem_mem hlt
      have hev := hI.ev _ hmem
      have hsn : l.take (k + 1) = l.take k ++ [l[k]] := by rw [List.take_add_one, List.getElem?_eq_getElem hlt]; rfl
      have HN2 := Lib.hid (HNO.out l[k] wr hev.1 (Nat.le_trans hev.2.1 hev.2.2))
      have HS := Lib.hid hsn
      have HME := Lib.hid hmem
      generalize l[k] = x at *
      clear hat hsn hmem h hI HNO hev
      go_wp2_with (refine load_cells (B := b) (k := lo + k * 3) 92 (mvC x) (by rfl) rfl rfl HK (by kernel_rfl) (by kernel_rfl) ?_)
      clear HK
      refine HN2.out.mono ?_
      rintro e w2 ⟨rfl, k2⟩
      have B2 := Bk.trans (k2.mono Bk.size)
      clear HN2
      cases hx : okMvN x.x with
      | true =>
        have hd : (!true) = false := rfl
        go_wp2
        go_roundw
        case rel => exact ⟨k + 1, by omega, by go_num, by
          rw [HS.out]
          intro y hy
          rcases List.mem_append.1 hy with q | q
          · exact hall y q
          · rw [List.mem_singleton.1 q]; exact hx, B2⟩
        case measure => simp [intOf]; omega
      | false =>
        have hd : (!false) = true := rfl
        have hno : Hid ((xs l).all okMvN = false) := by
          show _ = _
          rw [Bool.eq_false_iff]
          intro q
          have q2 := List.all_eq_true.1 q x.x (List.mem_map.2 ⟨x, HME.out, rfl⟩)
          rw [hx] at q2
          cases q2
        go_wp2
        go_ret
        refine ⟨⟨_, rfl, ?_⟩, B2⟩
        rw [hno.out]
        exact decide_eq_true q3
    · obtain rfl : k = l.length := by omega
      have q2 : decide ((l.length : Int) < (l.length : Int)) = false := decide_eq_false (by omega)
      have hyes : Hid ((xs l).all okMvN = true) := by
        show _ = _
        rw [List.take_length] at hall
        rw [List.all_eq_true]
        intro y hy
        obtain ⟨z, hz, rfl⟩ := List.mem_map.1 hy
        exact hall z hz
      clear hall
      go_wp2
      go_ret
      refine ⟨⟨_, rfl, ?_⟩, Bk⟩
      rw [hyes.out]
      rfl

theorem mg_contains (a : Option Addr) (c : Nat) (l : List MvH) (w : World) (h : MvsIn w a l) (hlen : l.length ≤ maxLen) :
    Calls Tryd.prog 20 #[.slice a l.length c, .func (.func 25) #[] #[]] w fun e w' => e = .returned (.bool (!((xs l).all okMvN))) ∧ Below w.heap.size w w' := by
  have HX := Lib.hid (mg_index a c l w h hlen)
  go_enter Tryd.func20, Tryd.ntmps20
  go_wp2_with fail
  refine HX.out.mono ?_
  rintro e w2 ⟨⟨r, rfl, hd⟩, b⟩
  go_wp2
  go_ret
  exact ⟨by rw [← hd]; rfl, b⟩

end Go.Proofs.YtdjljnpbnhampaaDoor

namespace Go.Proofs.YtdjljnpbnhampaaDoor
open Go.RowKit
attribute [local go_sem ↓] Go.wp_at_zero Go.wp_at_succ
set_option linter.unusedSimpArgs false
set_option linter.unusedVariables false
set_option maxRecDepth 100000

set_option maxHeartbeats 1600000 in
theorem lots_val (a : Option Addr) (c : Nat) (hs : List MvH) (w : World) (h : MvsIn w a hs) (hm : hs.length + (eachL (xs hs)).length ≤ 4611686018427387904) :
    Calls Tryd.prog 19 #[.slice a hs.length c] w fun e w' => e = .returned (.bool (decide (1500 < hs.length + (eachL (xs hs)).length))) ∧ Below w.heap.size w w' := by
  have k1 : hs.length ≤ 9223372036854775807 := by omega
  have HLE := Lib.hid (eachL_le hs)
  have HMX : Hid (hs.length + (eachL (xs hs)).length ≤ 4611686018427387904) := hm
  clear hm
  go_enter Tryd.func19, Tryd.ntmps19
  go_wp2_with fail
  go_loopw [3, 10] (fun v i wr => ∃ k : Nat, k ≤ hs.length ∧ i = .int .i64 k ∧ v = .int .i64 ((hs.length + (eachL (xs (hs.take k))).length : Nat) : Int) ∧ Below w.heap.size w wr) (fun _ i _ => hs.length - (intOf i).toNat)
  case atStart => exact ⟨0, by omega, rfl, by simp [xs, eachL], Below.refl _ _⟩
  case round =>
    obtain ⟨k, hk, rfl, rfl, Bk⟩ := hrel
    by_cases hlt : k < hs.length
    · have hI := h.below Bk
      obtain ⟨b, lo, rfl, hbl, hat⟩ := hI.row.at hlt
      have q1 : (k : Int) < (hs.length : Int) := by omega
      have q2 : decide ((k : Int) < (hs.length : Int)) = true := decide_eq_true q1
      have q3 : (0 : Int) ≤ (k : Int) := by omega
      have q4 : IntKind.i64.wrap ((k : Int) + 1) = (k : Int) + 1 := by rw [IntKind.wrap_i64] <;> omega
      have HK := hat k hlt
      have HS : Hid ((eachL (xs (hs.take (k + 1)))).length = (eachL (xs (hs.take k))).length + hs[k].x.ev.length) := by
        show _ = _
        rw [eachL_take hs k hlt, List.length_append, prsF_len]
      have HL2 := Lib.hid (HLE.out (k + 1))
      have hsw := Bk.size
      generalize hs[k] = y at *
      clear hat hI
      have HA4 := Blk.new wr 92 (mvC zMvH)
      have b4 : Below wr.heap.size wr (wr.alloc (.cells (mvC zMvH) 92)) := (Below.refl _ _).alloc (Nat.le_refl _) _
      go_upto_region 5 with (first
        | (refine load_cells (B := b) (k := lo + k * 3) 92 (mvC y) (by rfl) rfl rfl HK (by kernel_rfl) (by kernel_rfl) ?_)
        | (refine alloc_blk 92 (mvC zMvH) (by rfl) rfl Tryd.mhZero ?_)
        | (refine store_blk (k := 0) 92 (.agg (mvC y)) (mvC y) (by rfl) rfl rfl rfl HA4 (by kernel_rfl) (show (3 : Nat) ≤ 3 from Nat.le_refl 3) (by rfl) (st_whole _ _ rfl) ?_; intro w5 HA5 b5 g5))
      have B5 := Bk.trans ((b4.trans b5).mono hsw)
      clear HA4 b4 b5 g5 HK Bk
      generalize wr.heap.size = G1 at *
      have c2 := HA5.cv 2 (.slice y.a y.x.ev.length y.c) rfl
      obtain ⟨L, hL⟩ : ∃ L, y.x.ev.length = L := ⟨_, rfl⟩
      rw [hL] at c2 HS
      clear hL HA5
      obtain ⟨M, hM⟩ : ∃ M, hs.length + (eachL (xs (hs.take k))).length = M := ⟨_, rfl⟩
      have HM : Hid (hs.length + (eachL (xs (hs.take (k + 1)))).length = M + L) := by
        show _ = _
        rw [HS.out, ← hM]
        omega
      have q5 : IntKind.i64.wrap ((M : Int) + (L : Int)) = ((M + L : Nat) : Int) := by
        have e1 := HM.out
        have e2 := HL2.out
        have e3 := HMX.out
        rw [IntKind.wrap_i64] <;> omega
      rw [hM]
      clear hM
      go_wp2
      go_roundw
      case rel => exact ⟨k + 1, by omega, by go_num, by rw [HM.out]; first | rfl | exact congrArg _ q5, B5⟩
      case measure => simp [intOf]; omega
    · obtain rfl : k = hs.length := by omega
      have q2 : decide ((hs.length : Int) < (hs.length : Int)) = false := decide_eq_false (by omega)
      rw [List.take_length]
      obtain ⟨M, hM⟩ : ∃ M, hs.length + (eachL (xs hs)).length = M := ⟨_, rfl⟩
      rw [hM]
      have hd : decide ((1500 : Int) < (M : Int)) = decide (1500 < M) := by
        by_cases hq : 1500 < M
        · rw [decide_eq_true hq, decide_eq_true (by omega)]
        · rw [decide_eq_false hq, decide_eq_false (by omega)]
      go_wp2
      go_ret
      exact ⟨by rw [hM, ← hd]; rfl, Bk⟩


end Go.Proofs.YtdjljnpbnhampaaDoor

namespace Go.Proofs.YtdjljnpbnhampaaDoor
open Go.RowKit
attribute [local go_sem ↓] Go.wp_at_zero Go.wp_at_succ
set_option linter.unusedSimpArgs false
set_option linter.unusedVariables false
set_option maxRecDepth 100000

theorem CellsAt.drewC {w : World} {B o : Nat} {X : Array Value} (h : CellsAt w B o X) : CellsAt w.drew B o X := h

set_option maxHeartbeats 6400000 in
theorem eqPrs_any (a1 : Option Addr) (c1 : Nat) (a2 : Option Addr) (c2 : Nat) (l : List Pr) (w : World) (h1 : PrIn w a1 l) (h2 : PrIn w a2 l) (hlen : l.length ≤ 1000000) :
    Calls Tryd.prog 24 #[.slice a1 l.length c1, .slice a2 l.length c2] w fun e w' => e = .returned (.bool true) ∧ Below w.heap.size w w' := by
  go_enter Tryd.func24, Tryd.ntmps24
  go_wp2_with fail
  go_loopw [13] (fun i wr => ∃ k : Nat, k ≤ l.length ∧ i = .int .i64 k ∧ Below w.heap.size w wr) (fun i _ => l.length - (intOf i).toNat)
  case atStart => exact ⟨0, by omega, rfl, Below.refl _ _⟩
  case round =>
    obtain ⟨k, hk, rfl, hb⟩ := hrel
    by_cases hlt : k < l.length
    · obtain ⟨b1, o1, rfl, hb1, hat1⟩ := h1.at hlt
      obtain ⟨b2, o2, rfl, hb2, hat2⟩ := h2.at hlt
      have q1 : (k : Int) < (l.length : Int) := by omega
      have q2 : decide ((k : Int) < (l.length : Int)) = true := decide_eq_true q1
      have q3 : (0 : Int) ≤ (k : Int) := by omega
      have HK1 := (hat1 k hlt).below hb hb1
      have HK2 := (hat2 k hlt).below hb hb2
      have HEQ := fun W => pr_same l[k] W
      generalize l[k] = x at *
      go_upto_region 6 with (fail)
      refine wp_region_noPanic ?_
      refine wp_region_held_drew (S := (fun w' => CellsAt w' b1 (o1 + k * 2) (prC x) ∧ CellsAt w' b2 (o2 + k * 2) (prC x))) (by kernel_rfl) ?_ (fun hHeld => ?_)
      · exact ⟨HK1.drewC, HK2.drewC⟩
      refine wpAnyH_take (i := 0) (v := ?_) rfl (by kernel_rfl) (by kernel_rfl) (by kernel_rfl) (fun _ _ _ h => h) (Or.inl ⟨by rfl, ?_⟩) (by assumption) ?_
      rotate_left
      · (intro w hSw; (try dsimp only at hSw); go_simp; (try with_reducible rfl))
      (try simp only [Act.put, List.getElem_toArray, List.getElem_cons_zero, List.getElem_cons_succ, List.setIfInBounds_toArray, List.set_cons_zero, List.set_cons_succ])
      refine wpAnyH_take (i := 1) (v := ?_) rfl (by kernel_rfl) (by kernel_rfl) (by kernel_rfl) (fun _ _ _ h => h) (Or.inl ⟨by rfl, ?_⟩) (by assumption) ?_
      rotate_left
      · (intro w hSw; (try dsimp only at hSw); go_simp; (try with_reducible rfl))
      (try simp only [Act.put, List.getElem_toArray, List.getElem_cons_zero, List.getElem_cons_succ, List.setIfInBounds_toArray, List.set_cons_zero, List.set_cons_succ])
      refine wpAnyH_take (i := 2) (v := ?_) rfl (by kernel_rfl) (by kernel_rfl) (by kernel_rfl) (fun _ _ _ h => h) (Or.inl ⟨by rfl, ?_⟩) (by assumption) ?_
      rotate_left
      · (intro w hSw; (try dsimp only at hSw); go_simp; (try with_reducible rfl))
      (try simp only [Act.put, List.getElem_toArray, List.getElem_cons_zero, List.getElem_cons_succ, List.setIfInBounds_toArray, List.set_cons_zero, List.set_cons_succ])
      refine wpAnyH_take (i := 3) (v := .agg (prC x)) rfl (by kernel_rfl) (by kernel_rfl) (by kernel_rfl) (fun _ _ _ h => h) (Or.inl ⟨by rfl, fun w hSw => exec_load_cells 84 (prC x) rfl rfl hSw.1 (by kernel_rfl) (by kernel_rfl)⟩) (by assumption) ?_
      (try simp only [Act.put, List.getElem_toArray, List.getElem_cons_zero, List.getElem_cons_succ, List.setIfInBounds_toArray, List.set_cons_zero, List.set_cons_succ])
      refine wpAnyH_take (i := 4) (v := ?_) rfl (by kernel_rfl) (by kernel_rfl) (by kernel_rfl) (fun _ _ _ h => h) (Or.inl ⟨by rfl, ?_⟩) (by assumption) ?_
      rotate_left
      · (intro w hSw; (try dsimp only at hSw); go_simp; (try with_reducible rfl))
      (try simp only [Act.put, List.getElem_toArray, List.getElem_cons_zero, List.getElem_cons_succ, List.setIfInBounds_toArray, List.set_cons_zero, List.set_cons_succ])
      refine wpAnyH_take (i := 5) (v := ?_) rfl (by kernel_rfl) (by kernel_rfl) (by kernel_rfl) (fun _ _ _ h => h) (Or.inl ⟨by rfl, ?_⟩) (by assumption) ?_
      rotate_left
      · (intro w hSw; (try dsimp only at hSw); go_simp; (try with_reducible rfl))
      (try simp only [Act.put, List.getElem_toArray, List.getElem_cons_zero, List.getElem_cons_succ, List.setIfInBounds_toArray, List.set_cons_zero, List.set_cons_succ])
      refine wpAnyH_take (i := 6) (v := ?_) rfl (by kernel_rfl) (by kernel_rfl) (by kernel_rfl) (fun _ _ _ h => h) (Or.inl ⟨by rfl, ?_⟩) (by assumption) ?_
      rotate_left
      · (intro w hSw; (try dsimp only at hSw); go_simp; (try with_reducible rfl))
      (try simp only [Act.put, List.getElem_toArray, List.getElem_cons_zero, List.getElem_cons_succ, List.setIfInBounds_toArray, List.set_cons_zero, List.set_cons_succ])
      refine wpAnyH_take (i := 7) (v := .agg (prC x)) rfl (by kernel_rfl) (by kernel_rfl) (by kernel_rfl) (fun _ _ _ h => h) (Or.inl ⟨by rfl, fun w hSw => exec_load_cells 84 (prC x) rfl rfl hSw.2 (by kernel_rfl) (by kernel_rfl)⟩) (by assumption) ?_
      (try simp only [Act.put, List.getElem_toArray, List.getElem_cons_zero, List.getElem_cons_succ, List.setIfInBounds_toArray, List.set_cons_zero, List.set_cons_succ])
      refine wpAnyH_take (i := 8) (v := .bool false) rfl (by kernel_rfl) (by kernel_rfl) (by kernel_rfl) (fun _ _ _ h => h) (Or.inl ⟨by rfl, fun w hSw => exec_eq_agg .neq 84 (prC x) (prC x) true rfl (Or.inr rfl) rfl rfl (by kernel_rfl) (HEQ w)⟩) (by assumption) ?_
      (try simp only [Act.put, List.getElem_toArray, List.getElem_cons_zero, List.getElem_cons_succ, List.setIfInBounds_toArray, List.set_cons_zero, List.set_cons_succ])
      refine wpAnyH_done (by kernel_rfl) ?_ _
      refine NoPanic.normal ?_
      have hbd := hb.drew
      go_wp2
      go_roundw
      case rel => exact ⟨k + 1, by omega, by go_num, hbd⟩
      case measure => simp [intOf]; omega
    · obtain rfl : k = l.length := by omega
      have q2 : decide ((l.length : Int) < (l.length : Int)) = false := decide_eq_false (by omega)
      go_wp2
      go_ret
      exact ⟨rfl, hb⟩

end Go.Proofs.YtdjljnpbnhampaaDoor

namespace Go.Proofs.YtdjljnpbnhampaaDoor
open Go.RowKit Go.Extern.Stop Go.Stop Go.Extern

/-! Closed facts on the entries for internal/reflectlite at this program's types. -/

theorem Tryd.rlValueOfPE (t : Addr) (w : World) : (ReflectliteValue.unpack (.iface 152 (.pointer (some t)))).run Tryd.prog w
    = .ok (.agg #[.pointer (some ⟨4, 152, none⟩), .pointer (some ⟨w.heap.size, 0, none⟩), .int .u64 150]) (w.alloc (.cells #[.pointer (some t)] 152)) := by kernel_rfl

theorem Tryd.rlTypePE (a : Addr) (w : World) : (ReflectliteValue.methodAny (ReflectliteValue.valueError "reflectlite.Value.Type" 0) (fun t _ _ _ => ReflectliteType.toType t) #[.agg #[.pointer (some ⟨4, 152, none⟩), .pointer (some a), .int .u64 150]]).run Tryd.prog w
    = .ok (.iface 221 (.agg #[.pointer (some ⟨4, 152, none⟩)])) w := by kernel_rfl

theorem Tryd.rlMethodKind (h : Value) (w : World) : (Go.method 372 221 (.agg #[h]) "Kind").run Tryd.prog w = .ok (147, h) w := by kernel_rfl

theorem Tryd.rlKindPE (w : World) : ((ReflectliteType.abiMethod fun t => (fun a : Nat => Value.int IntKind.u8 (a : Int)) <$> Rtype.kind t) #[.pointer (some ⟨4, 152, none⟩)]).run Tryd.prog w = .ok (.int .u8 22) w := by kernel_rfl

theorem Tryd.rlKindE (w : World) : ((ReflectliteType.abiMethod fun t => (fun a : Nat => Value.int IntKind.u8 (a : Int)) <$> Rtype.kind t) #[.pointer (some ⟨4, 35, none⟩)]).run Tryd.prog w = .ok (.int .u8 2) w := by kernel_rfl

theorem Tryd.rlPartsPE (a : Addr) (w : World) : (ReflectliteValue.parts (.agg #[.pointer (some ⟨4, 152, none⟩), .pointer (some a), .int .u64 150])).run Tryd.prog w = .ok (some (152, a, 150)) w := by kernel_rfl

theorem Tryd.rlIsNilPE (a p : Addr) (W : World) (ha : W.cell? a = some (.pointer (some p))) :
    (ReflectliteValue.method (ReflectliteValue.valueError "reflectlite.Value.IsNil" 0) ReflectliteValue.isNil #[.agg #[.pointer (some ⟨4, 152, none⟩), .pointer (some a), .int .u64 150]]).run Tryd.prog W = .ok (.bool false) W := by
  change Sem.run _ (ReflectliteValue.parts (.agg #[.pointer (some ⟨4, 152, none⟩), .pointer (some a), .int .u64 150]) >>= _) _ = _
  simp only [Sem.run_bind, Tryd.rlPartsPE, Result.andThen]
  simp [ReflectliteValue.isNil, loadVar, isAgg, underlying, Tryd.underlying152, ha, Result.andThen]

theorem Tryd.rlMethodElem (h : Value) (w : World) : (Go.method 372 221 (.agg #[h]) "Elem").run Tryd.prog w = .ok (160, .agg #[h]) w := by kernel_rfl

theorem Tryd.rlMethodImplements (h : Value) (w : World) : (Go.method 372 221 (.agg #[h]) "Implements").run Tryd.prog w = .ok (161, .agg #[h]) w := by kernel_rfl

theorem Tryd.rlMethodAssignableTo (h : Value) (w : World) : (Go.method 372 221 (.agg #[h]) "AssignableTo").run Tryd.prog w = .ok (158, .agg #[h]) w := by kernel_rfl

theorem Tryd.rlElemPE (w : World) : (ReflectliteType.method ReflectliteType.elem #[.agg #[.pointer (some ⟨4, 152, none⟩)]]).run Tryd.prog w = .ok (.iface 221 (.agg #[.pointer (some ⟨4, 35, none⟩)])) w := by kernel_rfl

theorem Tryd.rlImplementsE (w : World) : (ReflectliteType.relation "Implements" ReflectliteType.implements_ #[.agg #[.pointer (some ⟨4, 35, none⟩)], .iface 221 (.agg #[.pointer (some ⟨4, 41, none⟩)])]).run Tryd.prog w = .ok (.bool true) w := by kernel_rfl

theorem Tryd.rlTypeOfE (v : Value) (w : World) : (ReflectliteType.typeOf #[.iface 35 v]).run Tryd.prog w = .ok (.iface 221 (.agg #[.pointer (some ⟨4, 35, none⟩)])) w := by kernel_rfl

theorem Tryd.rlTypeOfA (v : Value) (w : World) : (ReflectliteType.typeOf #[.iface 142 v]).run Tryd.prog w = .ok (.iface 221 (.agg #[.pointer (some ⟨4, 142, none⟩)])) w := by kernel_rfl

theorem Tryd.rlAssignableEE (w : World) : (ReflectliteType.relation "AssignableTo" ReflectliteType.assignableTo #[.agg #[.pointer (some ⟨4, 35, none⟩)], .iface 221 (.agg #[.pointer (some ⟨4, 35, none⟩)])]).run Tryd.prog w = .ok (.bool true) w := by kernel_rfl

theorem Tryd.rlAssignableAE (w : World) : (ReflectliteType.relation "AssignableTo" ReflectliteType.assignableTo #[.agg #[.pointer (some ⟨4, 142, none⟩)], .iface 221 (.agg #[.pointer (some ⟨4, 35, none⟩)])]).run Tryd.prog w = .ok (.bool false) w := by kernel_rfl

theorem Tryd.rlValueOfE (x : Int) (w : World) : (ReflectliteValue.unpack (.iface 35 (.int .i64 x))).run Tryd.prog w
    = .ok (.agg #[.pointer (some ⟨4, 35, none⟩), .pointer (some ⟨w.heap.size, 0, none⟩), .int .u64 130]) (w.alloc (.cells #[.int .i64 x] 35)) := by kernel_rfl

theorem Tryd.rlElemOfPE (w : World) : (Rtype.elem? 152).run Tryd.prog w = .ok (some 35) w := by kernel_rfl

theorem Tryd.rlMkE (p : Addr) (w : World) : (ReflectliteValue.mk 35 p ReflectliteValue.flagAddr).run Tryd.prog w = .ok (.agg #[.pointer (some ⟨4, 35, none⟩), .pointer (some p), .int .u64 386]) w := by kernel_rfl

theorem Tryd.rlElemVPE (a p : Addr) (W : World) (ha : W.cell? a = some (.pointer (some p))) :
    (ReflectliteValue.method (ReflectliteValue.valueError "reflectlite.Value.Elem" 0) ReflectliteValue.elem #[.agg #[.pointer (some ⟨4, 152, none⟩), .pointer (some a), .int .u64 150]]).run Tryd.prog W
      = .ok (.agg #[.pointer (some ⟨4, 35, none⟩), .pointer (some p), .int .u64 386]) W := by
  change Sem.run _ (ReflectliteValue.parts (.agg #[.pointer (some ⟨4, 152, none⟩), .pointer (some a), .int .u64 150]) >>= _) _ = _
  simp only [Sem.run_bind, Tryd.rlPartsPE, Result.andThen]
  simp [ReflectliteValue.elem, loadVar, isAgg, underlying, Tryd.underlying152, ha, Result.andThen, Tryd.rlElemOfPE, Tryd.rlMkE]

theorem Tryd.rlPartsEa (a : Addr) (w : World) : (ReflectliteValue.parts (.agg #[.pointer (some ⟨4, 35, none⟩), .pointer (some a), .int .u64 386])).run Tryd.prog w = .ok (some (35, a, 386)) w := by kernel_rfl

theorem Tryd.rlPartsE (a : Addr) (w : World) : (ReflectliteValue.parts (.agg #[.pointer (some ⟨4, 35, none⟩), .pointer (some a), .int .u64 130])).run Tryd.prog w = .ok (some (35, a, 130)) w := by kernel_rfl

theorem Tryd.rlDirectE (w : World) : (Rtype.directlyAssignable 35 35).run Tryd.prog w = .ok true w := by kernel_rfl

theorem Tryd.rlSizeE (w : World) : (sizeOf 35).run Tryd.prog w = .ok 1 w := by kernel_rfl

theorem Tryd.rlSetE (ta b : Addr) (x : Int) (old : Value) (W : World) (hb : W.cell? b = some (.int .i64 x)) (ht : W.cell? ta = some old) (hf : W.frozen? ta = false) :
    (ReflectliteValue.set #[.agg #[.pointer (some ⟨4, 35, none⟩), .pointer (some ta), .int .u64 386], .agg #[.pointer (some ⟨4, 35, none⟩), .pointer (some b), .int .u64 130]]).run Tryd.prog W
      = .ok (.tuple #[]) (W.setCell ta (.int .i64 x)) := by
  change Sem.run _ (ReflectliteValue.parts (.agg #[.pointer (some ⟨4, 35, none⟩), .pointer (some ta), .int .u64 386]) >>= fun _ => ReflectliteValue.parts (.agg #[.pointer (some ⟨4, 35, none⟩), .pointer (some b), .int .u64 130]) >>= _) _ = _
  simp only [Sem.run_bind, Tryd.rlPartsEa, Tryd.rlPartsE, Result.andThen]
  simp [ReflectliteValue.flagAddr, loadVar, isAgg, underlying, Tryd.underlying35, hb, Result.andThen, Tryd.rlDirectE, storeVar, Value.cells, storeCells, Addr.add]
  rw [run_store Tryd.prog W ta _ _ (by rfl)]
  simp [ht, hf]

end Go.Proofs.YtdjljnpbnhampaaDoor

namespace Go.Proofs.YtdjljnpbnhampaaDoor
open Go.RowKit Go.Extern.Stop Go.Stop Go.Extern

/-- The variable errors.errorType holds the type error's handle. -/
def HasErr (w : World) : Prop := w.cell? ⟨0, 0, none⟩ = some (.iface 221 (.agg #[.pointer (some ⟨4, 41, none⟩)]))

theorem HasErr.lt {w : World} (h : HasErr w) : 0 < w.heap.size := by
  rcases Nat.lt_or_ge 0 w.heap.size with h' | h'
  · exact h'
  · have : w.cell? ⟨0, 0, none⟩ = none := by simp [World.cell?, Array.getElem?_eq_none h']
    unfold HasErr at h
    rw [this] at h
    cases h

theorem HasErr.alloc {w : World} (h : HasErr w) (o : Obj) : HasErr (w.alloc o) := (World.cell?_alloc_lt _ _ _ h.lt).trans h

theorem HasErr.below {w w' : World} (h : HasErr w) (hb : Below w.heap.size w w') : HasErr w' := (hb.cell (p := ⟨0, 0, none⟩) h.lt).trans h

theorem as_nil (t : Value) (w : World) :
    Calls Tryd.prog 69 #[.nilIface, t] w fun e w' => e = .returned (.bool false) ∧ w' = w := by
  go_enter Tryd.func69, Tryd.ntmps69
  go_wp2
  go_ret
  exact ⟨rfl, rfl⟩

set_option maxHeartbeats 4000000 in
/-- errors.As, the error is an Errno: it is found. -/
theorem as_errno (x : Int) (t : Addr) (old : Value) (w : World) (hg : HasErr w) (ht0 : w.cell? t = some old) (hf0 : w.frozen? t = false) :
    Calls Tryd.prog 69 #[.iface 35 (.int .i64 x), .iface 152 (.pointer (some t))] w fun ev w' => ev = .returned (.bool true) ∧ ∃ w1, Below w.heap.size w w1 ∧ w' = w1.setCell t (.int .i64 x) := by
  have hVO := @run_callFunc_extern Tryd.prog 97 _ (fun args => ReflectliteValue.unpack (args.getD 0 (.tuple #[]))) Tryd.func97 (by kernel_rfl) (by kernel_rfl) (by kernel_rfl) (by kernel_rfl)
  have hTy := @run_callFunc_extern Tryd.prog 98 _ (ReflectliteValue.methodAny (ReflectliteValue.valueError "reflectlite.Value.Type" 0) (fun t _ _ _ => ReflectliteType.toType t)) Tryd.func98 (by kernel_rfl) (by kernel_rfl) (by kernel_rfl) (by kernel_rfl)
  have hIN := @run_callFunc_extern Tryd.prog 99 _ (ReflectliteValue.method (ReflectliteValue.valueError "reflectlite.Value.IsNil" 0) ReflectliteValue.isNil) Tryd.func99 (by kernel_rfl) (by kernel_rfl) (by kernel_rfl) (by kernel_rfl)
  have hKi := @run_callFunc_extern Tryd.prog 147 _ (ReflectliteType.abiMethod fun t => do pure (.int .u8 (← Rtype.kind t))) Tryd.func147 (by kernel_rfl) (by kernel_rfl) (by kernel_rfl) (by kernel_rfl)
  have hEl := @run_callFunc_extern Tryd.prog 160 _ (ReflectliteType.method ReflectliteType.elem) Tryd.func160 (by kernel_rfl) (by kernel_rfl) (by kernel_rfl) (by kernel_rfl)
  have hIm := @run_callFunc_extern Tryd.prog 161 _ (ReflectliteType.relation "Implements" ReflectliteType.implements_) Tryd.func161 (by kernel_rfl) (by kernel_rfl) (by kernel_rfl) (by kernel_rfl)
  have hTO := @run_callFunc_extern Tryd.prog 115 _ ReflectliteType.typeOf Tryd.func115 (by kernel_rfl) (by kernel_rfl) (by kernel_rfl) (by kernel_rfl)
  have hAT := @run_callFunc_extern Tryd.prog 158 _ (ReflectliteType.relation "AssignableTo" ReflectliteType.assignableTo) Tryd.func158 (by kernel_rfl) (by kernel_rfl) (by kernel_rfl) (by kernel_rfl)
  have hEV := @run_callFunc_extern Tryd.prog 116 _ (ReflectliteValue.method (ReflectliteValue.valueError "reflectlite.Value.Elem" 0) ReflectliteValue.elem) Tryd.func116 (by kernel_rfl) (by kernel_rfl) (by kernel_rfl) (by kernel_rfl)
  have hSe := @run_callFunc_extern Tryd.prog 117 _ ReflectliteValue.set Tryd.func117 (by kernel_rfl) (by kernel_rfl) (by kernel_rfl) (by kernel_rfl)
  have q1 := Tryd.rlValueOfPE
  have q2 := Tryd.rlTypePE
  have q3 := Tryd.rlMethodKind
  have q4 := Tryd.rlKindPE
  have q5 := Tryd.rlKindE
  have q6 := Tryd.rlMethodElem
  have q7 := Tryd.rlMethodImplements
  have q8 := Tryd.rlMethodAssignableTo
  have q9 := Tryd.rlElemPE
  have q10 := Tryd.rlImplementsE
  have q11 := Tryd.rlTypeOfE
  have q12 := Tryd.rlAssignableEE
  have q13 := Tryd.rlValueOfE
  have n8 := Tryd.rlIsNilPE ⟨w.heap.size, 0, none⟩ t ((w.alloc (.cells #[.pointer (some t)] 152)).alloc (.cells #[.pointer (some ⟨4, 152, none⟩), .pointer (some ⟨w.heap.size, 0, none⟩), .int .u64 150] 197)) (by simp)
  have hg2 : ((w.alloc (.cells #[.pointer (some t)] 152)).alloc (.cells #[.pointer (some ⟨4, 152, none⟩), .pointer (some ⟨w.heap.size, 0, none⟩), .int .u64 150] 197)).cell? ⟨0, 0, none⟩ = some (.iface 221 (.agg #[.pointer (some ⟨4, 41, none⟩)])) := (hg.alloc _).alloc _
  have htl : t.block < w.heap.size := by
    rcases Nat.lt_or_ge t.block w.heap.size with h | h
    · exact h
    · simp [World.cell?, Array.getElem?_eq_none h] at ht0
  have el := Tryd.rlElemVPE ⟨w.heap.size, 0, none⟩ t (((w.alloc (.cells #[.pointer (some t)] 152)).alloc (.cells #[.pointer (some ⟨4, 152, none⟩), .pointer (some ⟨w.heap.size, 0, none⟩), .int .u64 150] 197)).alloc (.cells #[.pointer (some ⟨4, 152, none⟩), .pointer (some ⟨w.heap.size, 0, none⟩), .int .u64 150] 197)) (by rw [World.cell?_alloc_lt _ _ ⟨w.heap.size, 0, none⟩ (by simp; omega)]; simp)
  have st := Tryd.rlSetE t ⟨w.heap.size + 1 + 1 + 1, 0, none⟩ x old ((((w.alloc (.cells #[.pointer (some t)] 152)).alloc (.cells #[.pointer (some ⟨4, 152, none⟩), .pointer (some ⟨w.heap.size, 0, none⟩), .int .u64 150] 197)).alloc (.cells #[.pointer (some ⟨4, 152, none⟩), .pointer (some ⟨w.heap.size, 0, none⟩), .int .u64 150] 197)).alloc (.cells #[.int .i64 x] 35))
    (by rw [World.cell?_alloc_at _ _ _ _ (by simp)]; rfl)
    (by rw [World.cell?_alloc_lt _ _ t (by simp; omega), World.cell?_alloc_lt _ _ t (by simp; omega), World.cell?_alloc_lt _ _ t (by simp; omega), World.cell?_alloc_lt _ _ t htl]; exact ht0)
    (by rw [World.frozen?_alloc_old _ _ t (by simp; omega), World.frozen?_alloc_old _ _ t (by simp; omega), World.frozen?_alloc_old _ _ t (by simp; omega), World.frozen?_alloc_old _ _ t (Nat.ne_of_lt htl)]; exact hf0)
  have hB : Below w.heap.size w ((((w.alloc (.cells #[.pointer (some t)] 152)).alloc (.cells #[.pointer (some ⟨4, 152, none⟩), .pointer (some ⟨w.heap.size, 0, none⟩), .int .u64 150] 197)).alloc (.cells #[.pointer (some ⟨4, 152, none⟩), .pointer (some ⟨w.heap.size, 0, none⟩), .int .u64 150] 197)).alloc (.cells #[.int .i64 x] 35)) := ((((Below.refl _ _).alloc (Nat.le_refl _) _).alloc (by simp) _).alloc (by simp; omega) _).alloc (by simp; omega) _
  have HB := Lib.hid hB
  clear hB
  go_enter Tryd.func69, Tryd.ntmps69
  go_wp2
  refine wp_loop_rounds 1 ?_
  rw [rounds_succ]
  go_wp2
  go_ret
  exact ⟨rfl, _, HB.out, rfl⟩
/-! What is asked of an *api.At: it has no As, it has an Unwrap. -/

theorem Tryd.noAsA (v : Value) (xT : TypeId) (w : World) : (Instr.typeAssert (.iface 142 v) xT 226 true).run Tryd.prog w = .ok (.tuple #[.nilIface, .bool false]) w :=
  run_typeAssert_lacksB Tryd.underlying226 (by kernel_rfl) (by kernel_rfl) v xT w

theorem Tryd.hasUnwrapA (v : Value) (xT : TypeId) (w : World) : (Instr.typeAssert (.iface 142 v) xT 175 true).run Tryd.prog w = .ok (.tuple #[.iface 142 v, .bool true]) w :=
  run_typeAssert_hasB Tryd.underlying175 (by kernel_rfl) v xT w

theorem Tryd.methodUnwrapA (a : Addr) (w : World) : (Go.method 372 142 (.pointer (some a)) "Unwrap").run Tryd.prog w = .ok (152, .pointer (some a)) w := by kernel_rfl

theorem Tryd.nilAheadA (a : Addr) (w : World) : (Go.nilAhead 372 142 (.pointer (some a)) "Unwrap").run Tryd.prog w = .ok (some false) w := by kernel_rfl

set_option maxHeartbeats 4000000 in
/-- errors.As, the error is an *api.At: its Unwrap is asked, and is an Errno. -/
theorem as_at (p : Nat) (x y : Int) (t : Addr) (old : Value) (w : World) (hp : Flt w p x y) (hg : HasErr w) (ht0 : w.cell? t = some old) (hf0 : w.frozen? t = false) :
    Calls Tryd.prog 69 #[.iface 142 (.pointer (some ⟨p, 0, none⟩)), .iface 152 (.pointer (some t))] w fun ev w' => ev = .returned (.bool true) ∧ ∃ w1, Below w.heap.size w w1 ∧ w' = w1.setCell t (.int .i64 x) := by
  have hVO := @run_callFunc_extern Tryd.prog 97 _ (fun args => ReflectliteValue.unpack (args.getD 0 (.tuple #[]))) Tryd.func97 (by kernel_rfl) (by kernel_rfl) (by kernel_rfl) (by kernel_rfl)
  have hTy := @run_callFunc_extern Tryd.prog 98 _ (ReflectliteValue.methodAny (ReflectliteValue.valueError "reflectlite.Value.Type" 0) (fun t _ _ _ => ReflectliteType.toType t)) Tryd.func98 (by kernel_rfl) (by kernel_rfl) (by kernel_rfl) (by kernel_rfl)
  have hIN := @run_callFunc_extern Tryd.prog 99 _ (ReflectliteValue.method (ReflectliteValue.valueError "reflectlite.Value.IsNil" 0) ReflectliteValue.isNil) Tryd.func99 (by kernel_rfl) (by kernel_rfl) (by kernel_rfl) (by kernel_rfl)
  have hKi := @run_callFunc_extern Tryd.prog 147 _ (ReflectliteType.abiMethod fun t => do pure (.int .u8 (← Rtype.kind t))) Tryd.func147 (by kernel_rfl) (by kernel_rfl) (by kernel_rfl) (by kernel_rfl)
  have hEl := @run_callFunc_extern Tryd.prog 160 _ (ReflectliteType.method ReflectliteType.elem) Tryd.func160 (by kernel_rfl) (by kernel_rfl) (by kernel_rfl) (by kernel_rfl)
  have hIm := @run_callFunc_extern Tryd.prog 161 _ (ReflectliteType.relation "Implements" ReflectliteType.implements_) Tryd.func161 (by kernel_rfl) (by kernel_rfl) (by kernel_rfl) (by kernel_rfl)
  have hTO := @run_callFunc_extern Tryd.prog 115 _ ReflectliteType.typeOf Tryd.func115 (by kernel_rfl) (by kernel_rfl) (by kernel_rfl) (by kernel_rfl)
  have hAT := @run_callFunc_extern Tryd.prog 158 _ (ReflectliteType.relation "AssignableTo" ReflectliteType.assignableTo) Tryd.func158 (by kernel_rfl) (by kernel_rfl) (by kernel_rfl) (by kernel_rfl)
  have hEV := @run_callFunc_extern Tryd.prog 116 _ (ReflectliteValue.method (ReflectliteValue.valueError "reflectlite.Value.Elem" 0) ReflectliteValue.elem) Tryd.func116 (by kernel_rfl) (by kernel_rfl) (by kernel_rfl) (by kernel_rfl)
  have hSe := @run_callFunc_extern Tryd.prog 117 _ ReflectliteValue.set Tryd.func117 (by kernel_rfl) (by kernel_rfl) (by kernel_rfl) (by kernel_rfl)
  have q1 := Tryd.rlValueOfPE
  have q2 := Tryd.rlTypePE
  have q3 := Tryd.rlMethodKind
  have q4 := Tryd.rlKindPE
  have q5 := Tryd.rlKindE
  have q6 := Tryd.rlMethodElem
  have q7 := Tryd.rlMethodImplements
  have q8 := Tryd.rlMethodAssignableTo
  have q9 := Tryd.rlElemPE
  have q10 := Tryd.rlImplementsE
  have q11 := Tryd.rlTypeOfE
  have q12 := Tryd.rlAssignableEE
  have q13 := Tryd.rlValueOfE
  have q14 := Tryd.rlTypeOfA
  have q15 := Tryd.rlAssignableAE
  have q16 := Tryd.noAsA
  have q17 := Tryd.hasUnwrapA
  have q18 := Tryd.methodUnwrapA
  have q19 := Tryd.nilAheadA
  have n8 := Tryd.rlIsNilPE ⟨w.heap.size, 0, none⟩ t ((w.alloc (.cells #[.pointer (some t)] 152)).alloc (.cells #[.pointer (some ⟨4, 152, none⟩), .pointer (some ⟨w.heap.size, 0, none⟩), .int .u64 150] 197)) (by simp)
  have hg2 : ((w.alloc (.cells #[.pointer (some t)] 152)).alloc (.cells #[.pointer (some ⟨4, 152, none⟩), .pointer (some ⟨w.heap.size, 0, none⟩), .int .u64 150] 197)).cell? ⟨0, 0, none⟩ = some (.iface 221 (.agg #[.pointer (some ⟨4, 41, none⟩)])) := (hg.alloc _).alloc _
  have htl : t.block < w.heap.size := by
    rcases Nat.lt_or_ge t.block w.heap.size with h | h
    · exact h
    · simp [World.cell?, Array.getElem?_eq_none h] at ht0
  have el := Tryd.rlElemVPE ⟨w.heap.size, 0, none⟩ t (((w.alloc (.cells #[.pointer (some t)] 152)).alloc (.cells #[.pointer (some ⟨4, 152, none⟩), .pointer (some ⟨w.heap.size, 0, none⟩), .int .u64 150] 197)).alloc (.cells #[.pointer (some ⟨4, 152, none⟩), .pointer (some ⟨w.heap.size, 0, none⟩), .int .u64 150] 197)) (by rw [World.cell?_alloc_lt _ _ ⟨w.heap.size, 0, none⟩ (by simp; omega)]; simp)
  have st := Tryd.rlSetE t ⟨w.heap.size + 1 + 1 + 1, 0, none⟩ x old ((((w.alloc (.cells #[.pointer (some t)] 152)).alloc (.cells #[.pointer (some ⟨4, 152, none⟩), .pointer (some ⟨w.heap.size, 0, none⟩), .int .u64 150] 197)).alloc (.cells #[.pointer (some ⟨4, 152, none⟩), .pointer (some ⟨w.heap.size, 0, none⟩), .int .u64 150] 197)).alloc (.cells #[.int .i64 x] 35))
    (by rw [World.cell?_alloc_at _ _ _ _ (by simp)]; rfl)
    (by rw [World.cell?_alloc_lt _ _ t (by simp; omega), World.cell?_alloc_lt _ _ t (by simp; omega), World.cell?_alloc_lt _ _ t (by simp; omega), World.cell?_alloc_lt _ _ t htl]; exact ht0)
    (by rw [World.frozen?_alloc_old _ _ t (by simp; omega), World.frozen?_alloc_old _ _ t (by simp; omega), World.frozen?_alloc_old _ _ t (by simp; omega), World.frozen?_alloc_old _ _ t (Nat.ne_of_lt htl)]; exact hf0)
  have hB : Below w.heap.size w ((((w.alloc (.cells #[.pointer (some t)] 152)).alloc (.cells #[.pointer (some ⟨4, 152, none⟩), .pointer (some ⟨w.heap.size, 0, none⟩), .int .u64 150] 197)).alloc (.cells #[.pointer (some ⟨4, 152, none⟩), .pointer (some ⟨w.heap.size, 0, none⟩), .int .u64 150] 197)).alloc (.cells #[.int .i64 x] 35)) := ((((Below.refl _ _).alloc (Nat.le_refl _) _).alloc (by simp) _).alloc (by simp; omega) _).alloc (by simp; omega) _
  have hc0 : (((w.alloc (.cells #[.pointer (some t)] 152)).alloc (.cells #[.pointer (some ⟨4, 152, none⟩), .pointer (some ⟨w.heap.size, 0, none⟩), .int .u64 150] 197)).alloc (.cells #[.pointer (some ⟨4, 152, none⟩), .pointer (some ⟨w.heap.size, 0, none⟩), .int .u64 150] 197)).cell? ⟨p, 0, none⟩ = some (.int .i64 x) := (((hp.alloc _).alloc _).alloc _).c0
  have HB := Lib.hid hB
  clear hB
  go_enter Tryd.func69, Tryd.ntmps69
  go_wp2
  refine wp_loop_rounds 2 ?_
  rw [rounds_succ]
  go_wp2
  rw [rounds_succ]
  go_wp2
  go_ret
  exact ⟨rfl, _, HB.out, rfl⟩

end Go.Proofs.YtdjljnpbnhampaaDoor

namespace Go.Proofs.YtdjljnpbnhampaaDoor
open Go.RowKit Go.Extern.Stop Go.Stop Go.Extern

/-- What errors.As leaves: the target holds the Errno; nothing else that was there is changed. -/
theorem as_left {t : Addr} {x : Int} {old : Value} {w w1 : World} (hb : Below w.heap.size w w1) (ht : w.cell? t = some old) :
    (w1.setCell t (.int .i64 x)).cell? t = some (.int .i64 x) ∧ w.grownBy (w1.setCell t (.int .i64 x)) (some t.block) := by
  have hlt : t.block < w.heap.size := World.block_lt_of_cell? w t ht
  have hc : w1.cell? t = some old := (hb.cell hlt).trans ht
  refine ⟨World.cell?_setCell_same' w1 t _ (by rw [hc]; rfl), hb.os, hb.tape, hb.output, by simpa [World.setCell] using hb.size, fun k hk hne => ?_⟩
  exact (Below.heap_setCell _ _ _ _ (by intro e; exact hne (by rw [e]))).trans (hb.block k hk)

theorem tell_nil (w : World) : Calls Tryd.prog 23 #[.nilIface] w fun e w' => e = .returned (.int .i64 0) ∧ w = w' := by
  go_enter Tryd.func23, Tryd.ntmps23
  go_wp2
  go_ret
  exact ⟨rfl, rfl⟩

theorem tell_errno (x : Int) (w : World) (hg : HasErr w) : Calls Tryd.prog 23 #[.iface 35 (.int .i64 x)] w fun e w' => e = .returned (.int .i64 x) ∧ Below w.heap.size w w' := by
  go_enter Tryd.func23, Tryd.ntmps23
  go_wp2_with fail
  have hc : (w.alloc (.cells #[.int .i64 0] 35)).cell? ⟨w.heap.size, 0, none⟩ = some (.int .i64 0) := by simp
  refine (as_errno x ⟨w.heap.size, 0, none⟩ (.int .i64 0) _ (hg.alloc _) hc (by simp)).mono ?_
  rintro e w' ⟨rfl, w1, hb1, rfl⟩
  obtain ⟨h1, h2⟩ := as_left (x := x) hb1 hc
  have hB : Below w.heap.size w (w1.setCell ⟨w.heap.size, 0, none⟩ (.int .i64 x)) := ((Below.refl _ _).alloc (Nat.le_refl _) _).grown h2 (by simp) (fun k e => by cases e; exact Nat.le_refl _)
  clear hb1 h2 hc
  generalize w1.setCell ⟨w.heap.size, 0, none⟩ (.int .i64 x) = w2 at *
  go_wp2
  go_ret
  exact ⟨rfl, hB⟩

theorem tell_at (p : Nat) (x y : Int) (w : World) (hg : HasErr w) (hp : Flt w p x y) : Calls Tryd.prog 23 #[.iface 142 (.pointer (some ⟨p, 0, none⟩))] w fun e w' => e = .returned (.int .i64 x) ∧ Below w.heap.size w w' := by
  go_enter Tryd.func23, Tryd.ntmps23
  go_wp2_with fail
  have hc : (w.alloc (.cells #[.int .i64 0] 35)).cell? ⟨w.heap.size, 0, none⟩ = some (.int .i64 0) := by simp
  refine (as_at p x y ⟨w.heap.size, 0, none⟩ (.int .i64 0) _ (hp.alloc _) (hg.alloc _) hc (by simp)).mono ?_
  rintro e w' ⟨rfl, w1, hb1, rfl⟩
  obtain ⟨h1, h2⟩ := as_left (x := x) hb1 hc
  have hB : Below w.heap.size w (w1.setCell ⟨w.heap.size, 0, none⟩ (.int .i64 x)) := ((Below.refl _ _).alloc (Nat.le_refl _) _).grown h2 (by simp) (fun k e => by cases e; exact Nat.le_refl _)
  clear hb1 h2 hc
  generalize w1.setCell ⟨w.heap.size, 0, none⟩ (.int .i64 x) = w2 at *
  go_wp2
  go_ret
  exact ⟨rfl, hB⟩

theorem Tryd.noUnwrapE (v : Value) (xT : TypeId) (w : World) : (Instr.typeAssert (.iface 35 v) xT 175 true).run Tryd.prog w = .ok (.tuple #[.nilIface, .bool false]) w :=
  run_typeAssert_lacksB Tryd.underlying175 (by kernel_rfl) (by kernel_rfl) v xT w

theorem Tryd.noAtE (v : Value) (w : World) : (Instr.typeAssert (.iface 35 v) 41 142 true).run Tryd.prog w = .ok (.tuple #[.pointer none, .bool false]) w := by kernel_rfl

theorem Tryd.isAtA (v : Value) (w : World) : (Instr.typeAssert (.iface 142 v) 41 142 true).run Tryd.prog w = .ok (.tuple #[v, .bool true]) w := by kernel_rfl

theorem place_nil (w : World) : Calls Tryd.prog 48 #[.nilIface] w fun e w' => e = .returned (.tuple #[.int .i64 0, .int .i64 (-1)]) ∧ w = w' := by
  go_enter Tryd.func48, Tryd.ntmps48
  go_wp2_with fail
  refine (tell_nil _).mono ?_
  rintro e w' ⟨rfl, rfl⟩
  go_wp2
  refine wp_loop_rounds 1 ?_
  rw [rounds_succ]
  go_wp2
  go_ret2
  exact ⟨rfl, rfl⟩

set_option maxRecDepth 100000 in
theorem place_errno (x : Int) (w : World) (hg : HasErr w) : Calls Tryd.prog 48 #[.iface 35 (.int .i64 x)] w fun e w' => e = .returned (.tuple #[.int .i64 x, .int .i64 (-1)]) ∧ Below w.heap.size w w' := by
  have q := Tryd.noUnwrapE
  have q2 := Tryd.noAtE
  go_enter Tryd.func48, Tryd.ntmps48
  go_wp2_with fail
  refine (tell_errno x _ hg).mono ?_
  rintro e w' ⟨rfl, hB⟩
  go_wp2
  refine wp_loop_rounds 1 ?_
  rw [rounds_succ]
  go_wp2
  go_ret2
  exact ⟨rfl, hB⟩

set_option maxRecDepth 100000 in
theorem place_at (p : Nat) (x y : Int) (w : World) (hg : HasErr w) (hp : Flt w p x y) : Calls Tryd.prog 48 #[.iface 142 (.pointer (some ⟨p, 0, none⟩))] w fun e w' => e = .returned (.tuple #[.int .i64 x, .int .i64 y]) ∧ Below w.heap.size w w' := by
  have q2 := Tryd.isAtA
  go_enter Tryd.func48, Tryd.ntmps48
  go_wp2_with fail
  refine (tell_at p x y _ hg hp).mono ?_
  rintro e w' ⟨rfl, hB⟩
  have hc : w'.cell? ⟨p, 1, none⟩ = some (.int .i64 y) := (hB.cell (p := ⟨p, 1, none⟩) hp.lt).trans hp.c1
  go_wp2
  refine wp_loop_rounds 1 ?_
  rw [rounds_succ]
  go_wp2
  go_region
  all_goals go_wp2
  all_goals go_ret2
  all_goals exact ⟨rfl, hB.drew⟩

end Go.Proofs.YtdjljnpbnhampaaDoor

