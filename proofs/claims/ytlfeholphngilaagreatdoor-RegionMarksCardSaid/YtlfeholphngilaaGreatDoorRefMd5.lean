/- The reference's Md5 at every text. -/
import Derived.Test.YtlfeholphngilaaGreatDoorRowB
import Derived.Test.YtlfeholphngilaaGreatDoorMd5M
import Derived.Test.YtlfeholphngilaaGreatDoorMd5Q
import Derived.Test.YtlfeholphngilaaGreatDoorRefSine
import Derived.Test.YtlfeholphngilaaGreatDoorCells
import Derived.Test.YtlfeholphngilaaGreatDoorTurns
import Derived.Test.YtlfeholphngilaaGreatDoorRow
import Derived.Deep.Cut
import Derived.Deep.CutBlock
import Derived.Deep.CutRange
import Derived.BigQuiet
import Derived.Deep.QuietTactic
import Derived.Laws.BitsAllLaws
namespace Go.Proofs.YtlfeholphngilaaGreatDoor
open Go.RowKit
attribute [local go_sem ↓] Go.wp_at_zero Go.wp_at_succ
set_option linter.unusedSimpArgs false
set_option linter.unusedVariables false
set_option maxRecDepth 100000

def lenV : Value → Nat
  | .slice _ n _ => n
  | _ => 0

theorem ByAt.same {w w' : World} {g : Nat} {l : List UInt8} (h : ByAt w g l) (hw : w'.heap[g]? = w.heap[g]?) (hs : w.heap.size ≤ w'.heap.size) : ByAt w' g l := by
  refine ⟨Nat.lt_of_lt_of_le h.1 hs, fun j v hv => ?_⟩
  have hc := h.2 j v hv
  unfold World.cell? at hc ⊢
  simp only at hc ⊢
  rw [hw]
  exact hc
theorem setCell_size (w : World) (a : Addr) (v : Value) : (w.setCell a v).heap.size = w.heap.size := by simp [World.setCell]

theorem md_byte (W : World) (b : UInt8) :
    (convert 35 9 (.slice (some ⟨W.heap.size, 0, none⟩) 1 1)).run Tryz.prog (W.alloc (.cells #[.int .u8 (b.toNat : Int)] 5)) = .ok (.string ⟨#[b]⟩) (W.alloc (.cells #[.int .u8 (b.toNat : Int)] 5)) := by
  have h := run_convert_bytes_back (P := Tryz.prog) (W.alloc (.cells #[.int .u8 (b.toNat : Int)] 5)) 35 9 5 ⟨W.heap.size, 0, none⟩ 1 [b] Tryz.underlying35 Tryz.underlying5 Tryz.underlying9 (fun j hj => by
    have hj0 : j = 0 := by simp at hj; exact hj
    subst hj0
    rw [Addr.add_lit, World.cell?_alloc_at _ _ _ _ rfl]
    rfl)
  exact h
theorem md_digit (W : World) (y : Nat) :
    (convert 35 9 (.slice (some ⟨W.heap.size, 0, none⟩) 1 1)).run Tryz.prog (W.alloc (.cells #[.int .u8 ((y : Int) % 256)] 5)) = .ok (.string ⟨#[UInt8.ofNat (y % 256)]⟩) (W.alloc (.cells #[.int .u8 ((y : Int) % 256)] 5)) := by
  rw [← byte_of_mod]
  exact md_byte W _

set_option maxHeartbeats 25600000 in
theorem refMd5_any (s : ByteArray) (w : World) (hs : s.size ≤ 1000000) :
    Calls Tryz.prog 26 #[.string s] w fun e w' => e = .returned (.string ⟨(md5L s.data.toList).toArray⟩) ∧ Below w.heap.size w w' := by
  obtain ⟨n, hn⟩ : ∃ n, n = s.size := ⟨_, rfl⟩
  have hcv := fun W => run_bytes_of_string (P := Tryz.prog) W 9 35 5 s Tryz.underlying9 Tryz.underlying35 Tryz.underlying5
  have hr0 := RowB.new w s w.heap.size (Nat.le_refl _) (by unfold maxLen; omega)
  have hb0 : Below w.heap.size w ((w.alloc (Obj.cells (bytesRow s (grownCap w s.size 0 5)) 5 ((bytesRow s (grownCap w s.size 0 5)).size, (bytesRow s (grownCap w s.size 0 5)).size + 1))).drew) := ((Below.refl _ _).alloc (Nat.le_refl _) _).drew
  obtain ⟨l, hl⟩ : ∃ l, l = s.data.toList := ⟨_, rfl⟩
  have hlen : l.length = s.size := by rw [hl]; simp
  rw [← hl] at hr0 ⊢
  rw [← hn] at hcv hs hr0 hb0 hlen
  have hsz : s.size = n := hn.symm
  have hc1 : ∀ (j : Nat) (z : Value), [Value.int .u8 128][j]? = some z → (((w.alloc (Obj.cells (bytesRow s (grownCap w n 0 5)) 5 ((bytesRow s (grownCap w n 0 5)).size, (bytesRow s (grownCap w n 0 5)).size + 1))).alloc (.cells #[.int .u8 128] 5)).drew).cell? ((⟨w.heap.size + 1, 0, none⟩ : Addr).add j) = some z := by
    have q := cell_one_new (w.alloc (Obj.cells (bytesRow s (grownCap w n 0 5)) 5 ((bytesRow s (grownCap w n 0 5)).size, (bytesRow s (grownCap w n 0 5)).size + 1))) (.int .u8 128) 5
    rw [show (w.alloc (Obj.cells (bytesRow s (grownCap w n 0 5)) 5 ((bytesRow s (grownCap w n 0 5)).size, (bytesRow s (grownCap w n 0 5)).size + 1))).heap.size = w.heap.size + 1 by simp] at q
    exact q
  have hb1 := hb0.alloc hb0.size (.cells #[.int .u8 128] 5)
  have HLN := Lib.hid hlen
  clear hn hl hlen
  go_enter Tryz.func26, Tryz.ntmps26
  go_wp2_with (at_builtin; refine append_byte rfl _ _ rfl w.heap.size (.slice (some ⟨w.heap.size, 0, none⟩) n (grownCap w n 0 5)) l rfl (hr0.alloc _) ⟨w.heap.size + 1, 0, none⟩ 1 128 _ (by rfl) rfl hc1 (by rw [HLN.out]; omega) (by first | omega | (simp; done) | (simp; omega)) (fun v1 w1 hr1 g1 => ?_))
  have b1 : Below w.heap.size w w1 := hb1.grown g1 (by simp; omega) (fun q hq => (RowB.own hr0 q hq).1)
  clear hr0 hb0 hc1 hb1 g1 hcv
  generalize grownCap w n 0 5 = cap at *
  generalize hB : w.heap.size = B at *
  have HB := Lib.hid hB
  have hsB : B ≤ w1.heap.size := by rw [← HB.out]; exact b1.size
  clear hB
  go_loopw [4] (fun v wr => ∃ j : Nat, j ≤ padN n ∧ RowB wr B v (l ++ 128 :: List.replicate j 0) ∧ Below B w wr) (fun v _ => n + 1 + padN n - lenV v)
  case atStart => exact ⟨0, by omega, hr1, b1⟩
  case round =>
    obtain ⟨j, hj, hR, hb⟩ := hrel
    clear hr1 b1 hsB
    have hlen : (l ++ 128 :: List.replicate j 0).length = n + 1 + j := by rw [List.length_append, List.length_cons, List.length_replicate, HLN.out]; omega
    obtain ⟨g, c, rfl, hgB, hgc, hcm, hat⟩ := hR.at
    obtain ⟨m, hm⟩ : ∃ m, m = n + 1 + j := ⟨_, rfl⟩
    rw [← hm] at hlen
    rw [hlen] at hR ⊢
    have HM := Lib.hid hm
    clear hat
    have hn1 : m ≤ 1000100 := by rw [hm]; have : padN n < 64 := Nat.mod_lt _ (by decide); omega
    by_cases hlt : j < padN n
    · have hd : ((m : Int) % 64 != 56) = true := by
        have := padN_not n j hlt
        rw [← hm] at this
        simp only [bne_iff_ne, ne_eq]
        omega
      have hsz : B ≤ wr.heap.size := by rw [← HB.out]; exact hb.size
      have hc1 := cell_one_new wr (.int .u8 0) 5
      have hbb := hb.alloc hsz (.cells #[.int .u8 0] 5)
      have HL := Lib.hid hlen
      clear hm hlen
      go_wp2_with (at_builtin; refine append_byte rfl _ _ rfl B (.slice (some ⟨g, 0, none⟩) m c) _ rfl (hR.alloc _) ⟨wr.heap.size, 0, none⟩ 1 0 _ (by rfl) rfl hc1 (by rw [HL.out]; omega) (by first | omega | (simp; omega)) (fun v2 w2 hr2 g2 => ?_))
      have hb2 : Below B w w2 := hbb.grown g2 (by simp; omega) (fun q hq => (RowB.own hR q hq).1)
      have hl2 : lenV v2 = m + 1 := by
        obtain ⟨g, c, rfl, _, _, _, _⟩ := hr2.at
        show List.length _ = _
        rw [List.length_append, HL.out]
        rfl
      rw [List.append_assoc, List.cons_append, ← List.replicate_succ'] at hr2
      clear hR hb hbb hc1 g2
      go_wp2
      go_roundw
      case rel => exact ⟨j + 1, by omega, hr2, hb2⟩
      case measure =>
        rw [hl2]
        show _ < n + 1 + padN n - m
        have := HM.out
        omega
    · obtain rfl : j = padN n := by omega
      have hd : ((m : Int) % 64 != 56) = false := by
        have := padN_end n
        rw [← hm] at this
        simp only [bne_eq_false_iff_eq]
        omega
      have HL := Lib.hid hlen
      clear hm hlen hlt hj
      go_wp2
      obtain ⟨P, hP⟩ : ∃ P, P = l ++ 128 :: List.replicate (padN n) 0 := ⟨_, rfl⟩
      rw [← hP] at hR HL
      have HP := Lib.hid hP
      clear hP
      generalize hv : Value.slice (some ⟨g, 0, none⟩) m c = v at *
      clear hv hgB hgc hcm
      go_loopw [3, 4, 37] (fun x v i wr => ∃ k : Nat, k ≤ 8 ∧ i = .int .i64 k ∧ x = .int .u64 ((n * 8 / 256 ^ k : Nat) : Int) ∧ RowB wr B v (P ++ leN (n * 8) k) ∧ Below B w wr) (fun _ _ i _ => 8 - (intOf i).toNat)
      case atStart => exact ⟨0, by omega, rfl, by simp, by rw [leN, List.append_nil]; exact hR, hb⟩
      case round =>
        obtain ⟨k, hk, rfl, rfl, hR, hb⟩ := hrel
        by_cases hlt : k < 8
        · obtain ⟨x, hx⟩ : ∃ x, x = n * 8 / 256 ^ k := ⟨_, rfl⟩
          have hxs : n * 8 / 256 ^ (k + 1) = x / 256 := by rw [Nat.pow_succ, ← Nat.div_div_eq_div_mul, hx]
          have hls : leN (n * 8) (k + 1) = leN (n * 8) k ++ [UInt8.ofNat (x % 256)] := by rw [leN_snoc, hx]
          have hx8 : x ≤ 8000000 := by rw [hx]; exact Nat.le_trans (Nat.div_le_self _ _) (by omega)
          rw [← hx]
          have hby := byte_of_mod x
          have HX := Lib.hid hxs
          have HLS := Lib.hid hls
          have hsz : B ≤ wr.heap.size := by rw [← HB.out]; exact hb.size
          have hc1 := cell_one_new wr (.int .u8 ((x : Int) % 256)) 5
          have hbb := hb.alloc hsz (.cells #[.int .u8 ((x : Int) % 256)] 5)
          have hlen : Hid ((P ++ leN (n * 8) k).length ≤ 1000000000) := by
            show _ ≤ _
            rw [List.length_append, leN_len, HL.out]
            omega
          have hu8 : Hid (Value.int .u8 ((x : Int) % 256) = .int .u8 ((UInt8.ofNat (x % 256)).toNat : Int)) := by show _ = _; rw [hby]
          clear hx hxs hls hby
          go_wp2_with (at_builtin; refine append_byte rfl _ _ rfl B u4 _ rfl (hR.alloc _) ⟨wr.heap.size, 0, none⟩ 1 (UInt8.ofNat (x % 256)) (.int .u8 ((x : Int) % 256)) hu8.out (by rfl) hc1 hlen.out (by first | omega | (simp; omega)) (fun v2 w2 hr2 g2 => ?_))
          have hb2 : Below B w w2 := hbb.grown g2 (by simp; omega) (fun q hq => (RowB.own hR q hq).1)
          rw [List.append_assoc, ← HLS.out] at hr2
          clear hR hb hbb hc1 g2 hlen
          go_wp2
          go_roundw
          case rel => exact ⟨k + 1, by omega, by go_num, by rw [HX.out]; go_num, hr2, hb2⟩
          case measure => simp [intOf]; omega
        · obtain rfl : k = 8 := by omega
          rw [show ((8 : Nat) : Int) = 8 from rfl]
          generalize ((n * 8 / 256 ^ 8 : Nat) : Int) = nn at *
          obtain ⟨L, hL⟩ : ∃ L, L = padL l := ⟨_, rfl⟩
          have hPL : P ++ leN (n * 8) 8 = L := by rw [hL, HP.out]; unfold padL; rw [HLN.out]; simp [List.append_assoc]
          rw [hPL] at hR
          obtain ⟨g, c, rfl, hgB, hgc, hcm, hat⟩ := hR.at
          have hmod : L.length % 64 = 0 := by rw [hL]; exact (padL_len l).1
          have hLl : L.length ≤ 1000200 := by
            have := (padL_len l).2
            rw [← hL, HLN.out] at this
            have : padN n < 64 := Nat.mod_lt _ (by decide)
            omega
          have HLL := Lib.hid hL
          have hsz : B ≤ wr.heap.size := by rw [← HB.out]; exact hb.size
          clear hPL hR hL hlt hk
          obtain ⟨N, hN⟩ : ∃ N, N = L.length / 64 := ⟨_, rfl⟩
          have hNL : L.length = 64 * N := by omega
          have HNL := Lib.hid hNL
          rw [hNL] at hgc hLl ⊢
          have HN := Lib.hid hN
          clear hmod hNL hN
          have hmm := @run_makeMap Tryz.prog
          go_upto_region 11 with (fail)
          have hh := Blk.new wr 65 (qC md0)
          have hat1 : ByAt (wr.alloc (.cells (qC md0) 65)) g L := hat.below ((Below.refl wr.heap.size wr).alloc (Nat.le_refl _) _) hat.1
          have hb1 := hb.alloc hsz (.cells (qC md0) 65)
          have hH : B ≤ wr.heap.size := hsz
          have hgH : g < wr.heap.size := hat.1
          have hHs : wr.heap.size < (wr.alloc (.cells (qC md0) 65)).heap.size := by simp
          change Code.wp _ _ _ _ (wr.alloc (.cells (qC md0) 65))
          generalize wr.alloc (.cells (qC md0) 65) = w1 at *
          generalize wr.heap.size = H at *
          clear hat hb hsz
          obtain ⟨m0, m1, m2, m3, m4, m5, m6, m7, m8, m9, m10, m11, m12, m13, m14, m15, m16, e0, e1, e2, e3, e4, e5, e6, e7, e8, e9, e10, e11, e12, e13, e14, e15, e16, hT, bT⟩ := turns_world w1
          have hMB : B ≤ w1.heap.size := by omega
          have hHM : H < w1.heap.size := hHs
          have hh2 : Blk m16 H 65 (qC md0) := hh.below bT hHs
          have hat2 : ByAt m16 g L := hat1.below bT hat1.1
          have hb2 : Below B w m16 := hb1.trans (bT.mono hMB)
          have hMs : w1.heap.size < m16.heap.size := (Array.getElem?_eq_some_iff.1 hT).1
          rw [e0] at e1
          clear e0 hh hat1 hb1 
          generalize hM : w1.heap.size = M at *
          go_wp2_with fail
          clear e1 e2 e3 e4 e5 e6 e7 e8 e9 e10 e11 e12 e13 e14 e15 e16 hmm bT hM hMB
          go_loopw [4] (fun v wr => ∃ (k : Nat) (p : Option Addr) (cc : Nat), k ≤ N ∧ v = .slice p (64 * N - 64 * k) cc ∧ (k < N → p = some ⟨g, 64 * k, none⟩) ∧ 64 * N - 64 * k ≤ cc ∧ cc ≤ maxLen ∧ Blk wr H 65 (qC (blocksN L k)) ∧ ByAt wr g L ∧ TurnsAt wr M ∧ Below B w wr ∧ H < wr.heap.size ∧ M < wr.heap.size) (fun v _ => lenV v)
          case atStart => exact ⟨0, some ⟨g, 0, none⟩, c, by omega, rfl, fun _ => rfl, by omega, hcm, hh2, hat2, hT, hb2, hh2.lt, hMs⟩
          case round =>
            clear hh2 hat2 hT hb2 hHs hMs hgc hcm
            obtain ⟨k, p, cc, hk, rfl, hp, hrc, hcc, hh, hat, hT, hb, hHs, hMs⟩ := hrel
            by_cases hlt : k < N
            · obtain rfl := hp hlt
              obtain ⟨r, hr⟩ : ∃ r, r = 64 * N - 64 * k := ⟨_, rfl⟩
              have hr64 : 64 ≤ r := by omega
              have hd : decide ((0 : Int) < (r : Int)) = true := decide_eq_true (by omega)
              have hdN : decide (0 < r) = true := decide_eq_true (by omega)
              rw [← hr] at hrc ⊢
              have HR := Lib.hid hr
              have hq := blocksN_lt L k
              have hbk : blocksN L (k + 1) = addN (blocksN L k) (stepsN L (64 * k) (blocksN L k) 64) := rfl
              have hst := fun j => stepsN_lt L (64 * k) hq j
              generalize hQ : blocksN L k = q at *
              have c0 := hh.cv 0 (.int .u32 (q.a : Int)) rfl
              have c1 := hh.cv 1 (.int .u32 (q.b : Int)) rfl
              have c2 := hh.cv 2 (.int .u32 (q.c : Int)) rfl
              have c3 := hh.cv 3 (.int .u32 (q.d : Int)) rfl
              clear hr hlt hp
              go_wp2_with fail
              go_quiet (fail)
              go_wp2_with fail
              have hh2 : Blk (wr.drewN nq) H 65 (qC q) := hh
              have hat2 : ByAt (wr.drewN nq) g L := hat
              have hT2 : TurnsAt (wr.drewN nq) M := hT
              have hb2 : Below B w (wr.drewN nq) := below_drewN hb nq
              have hHs2 : H < (wr.drewN nq).heap.size := hHs
              have hMs2 : M < (wr.drewN nq).heap.size := hMs
              clear hh hat hT hb hHs hMs c0 c1 c2 c3
              generalize wr.drewN nq = wa at *
              go_loopw [7, 8, 9, 10, 68] (fun va vb vc vd i wr => ∃ j : Nat, j ≤ 64 ∧ i = .int .i64 j ∧ va = .int .u32 ((stepsN L (64 * k) q j).a : Int) ∧ vb = .int .u32 ((stepsN L (64 * k) q j).b : Int) ∧ vc = .int .u32 ((stepsN L (64 * k) q j).c : Int) ∧ vd = .int .u32 ((stepsN L (64 * k) q j).d : Int) ∧ Blk wr H 65 (qC q) ∧ ByAt wr g L ∧ TurnsAt wr M ∧ Below B w wr ∧ H < wr.heap.size ∧ M < wr.heap.size) (fun _ _ _ _ i _ => 64 - (intOf i).toNat)
              case atStart => exact ⟨0, by omega, rfl, rfl, rfl, rfl, rfl, hh2, hat2, hT2, hb2, hHs2, hMs2⟩
              case round =>
                clear hh2 hat2 hT2 hb2 hHs2 hMs2
                obtain ⟨j, hj, rfl, rfl, rfl, rfl, rfl, hh, hat, hT, hb, hHs, hMs⟩ := hrel
                by_cases hlt : j < 64
                · have hX := hst j
                  have hnx : stepsN L (64 * k) q (j + 1) = stepN L (64 * k) j (stepsN L (64 * k) q j) := rfl
                  generalize stepsN L (64 * k) q j = X at *
                  obtain ⟨xa, xb, xc, xd⟩ := X
                  obtain ⟨⟨ha, hbb⟩, hc, hdd⟩ := hX
                  dsimp only at ha hbb hc hdd ⊢
                  have hF := fN_lt j hbb hc hdd
                  have hG := gN_16 j hlt
                  have hFe := fun h => @f1 j xb xc xd h hbb hc hdd
                  have hFe2 := fun h0 h => @f2 j xb xc xd h0 h hbb hc hdd
                  have hFe3 := fun h0 h1 h => @f3 j xb xc xd h0 h1 h hbb hc hdd
                  have hFe4 := fun h0 h1 h2 => @f4 j xb xc xd h0 h1 h2 hbb hc hdd
                  have hGe : gN j = if j < 16 then j else if j < 32 then (5 * j + 1) % 16 else if j < 48 then (3 * j + 5) % 16 else 7 * j % 16 := rfl
                  have hsn : stepN L (64 * k) j ⟨xa, xb, xc, xd⟩ = ⟨xd, (xb + rotN ((xa + fN j xb xc xd + wordN L (64 * k + 4 * gN j) + sinN j) % 4294967296) (turnN j)) % 4294967296, xb, xc⟩ := rfl
                  have hSine := fun W => refSine_any j W hlt
                  generalize fN j xb xc xd = F at *
                  obtain ⟨G, hGd⟩ : ∃ G, G = gN j := ⟨_, rfl⟩
                  rw [← hGd] at hG hsn hGe
                  clear hGd
                  go_upto_block 8 with (fail)
                  go_cut [12, 13] from 80 to 116 (fun sf sg wx => sf = .int .u32 (F : Int) ∧ sg = .int .i64 (G : Int) ∧ wx = wr)
                  case first =>
                    clear hh hat hT hb hnx hsn hSine
                    by_cases h16 : j < 16
                    · skip
                      have HF1 := Lib.hid (hFe h16)
                      have HG1 : Hid ((j : Int) = (G : Int)) := by show _ = _; rw [hGe, if_pos h16]
                      have hd16 : decide ((j : Int) < 16) = true := decide_eq_true (by omega)
                      clear hFe hFe2 hFe3 hFe4 hGe
                      go_wp2_with fail
                      go_meet
                      case rel => exact ⟨by rw [HF1.out], by rw [HG1.out], rfl⟩
                    · by_cases h32 : j < 32
                      · skip
                        have HF1 := Lib.hid (hFe2 h16 h32)
                        have HG1 : Hid ((5 * (j : Int) + 1) % 16 = (G : Int)) := by show _ = _; rw [hGe, if_neg h16, if_pos h32]; omega
                        have hd16 : decide ((j : Int) < 16) = false := decide_eq_false (by omega)
                        have hd32 : decide ((j : Int) < 32) = true := decide_eq_true (by omega)
                        clear hFe hFe2 hFe3 hFe4 hGe
                        go_wp2_with fail
                        go_meet
                        case rel => exact ⟨by rw [HF1.out], by rw [HG1.out], rfl⟩
                      · by_cases h48 : j < 48
                        · skip
                          have HF1 := Lib.hid (hFe3 h16 h32 h48)
                          have HG1 : Hid ((3 * (j : Int) + 5) % 16 = (G : Int)) := by show _ = _; rw [hGe, if_neg h16, if_neg h32, if_pos h48]; omega
                          have hd16 : decide ((j : Int) < 16) = false := decide_eq_false (by omega)
                          have hd32 : decide ((j : Int) < 32) = false := decide_eq_false (by omega)
                          have hd48 : decide ((j : Int) < 48) = true := decide_eq_true (by omega)
                          clear hFe hFe2 hFe3 hFe4 hGe
                          go_wp2_with fail
                          go_meet
                          case rel => exact ⟨by rw [HF1.out], by rw [HG1.out], rfl⟩
                        · skip
                          have HF1 := Lib.hid (hFe4 h16 h32 h48)
                          have HG1 : Hid (7 * (j : Int) % 16 = (G : Int)) := by show _ = _; rw [hGe, if_neg h16, if_neg h32, if_neg h48]; omega
                          have hd16 : decide ((j : Int) < 16) = false := decide_eq_false (by omega)
                          have hd32 : decide ((j : Int) < 32) = false := decide_eq_false (by omega)
                          have hd48 : decide ((j : Int) < 48) = false := decide_eq_false (by omega)
                          clear hFe hFe2 hFe3 hFe4 hGe
                          go_wp2_with fail
                          go_meet
                          case rel => exact ⟨by rw [HF1.out], by rw [HG1.out], rfl⟩
                  case rest =>
                    obtain ⟨rfl, rfl, hwc⟩ := hcut
                    rw [hwc]
                    clear hwc
                    clear hFe hFe2 hFe3 hFe4 hGe
                    go_wp2_with fail
                    have hk64 : 64 * k + 64 ≤ 64 * N := by have := HR.out; omega
                    have hkL : ∀ t, t < 64 → 64 * k + t < L.length := fun t ht => by rw [HNL.out]; omega
                    have hcel : ∀ t, t < 64 → wr.cell? ⟨g, 64 * k + t, none⟩ = some (.int .u8 ((L.getD (64 * k + t) 0).toNat : Int)) := fun t ht => hat.2 _ _ (by rw [List.getD_eq_getElem?_getD, List.getElem?_eq_getElem (hkL t ht)]; rfl)
                    have hW : wordN L (64 * k + 4 * G) = (L.getD (64 * k + 4 * G) 0).toNat + (L.getD (64 * k + (4 * G + 1)) 0).toNat * 256 + (L.getD (64 * k + (4 * G + 2)) 0).toNat * 65536 + (L.getD (64 * k + (4 * G + 3)) 0).toNat * 16777216 := rfl
                    have hc0 := hcel (4 * G) (by omega)
                    have hc1 := hcel (4 * G + 1) (by omega)
                    have hc2 := hcel (4 * G + 2) (by omega)
                    have hc3 := hcel (4 * G + 3) (by omega)
                    have hx0 := (L.getD (64 * k + 4 * G) 0).toNat_lt
                    have hx1 := (L.getD (64 * k + (4 * G + 1)) 0).toNat_lt
                    have hx2 := (L.getD (64 * k + (4 * G + 2)) 0).toNat_lt
                    have hx3 := (L.getD (64 * k + (4 * G + 3)) 0).toNat_lt
                    rw [hW] at hsn
                    generalize (L.getD (64 * k + 4 * G) 0).toNat = x0 at *
                    generalize (L.getD (64 * k + (4 * G + 1)) 0).toNat = x1 at *
                    generalize (L.getD (64 * k + (4 * G + 2)) 0).toNat = x2 at *
                    generalize (L.getD (64 * k + (4 * G + 3)) 0).toNat = x3 at *
                    have hi0 : 4 * (G : Int) < (r : Int) := by omega
                    have hi1 : 4 * (G : Int) + 1 < (r : Int) := by omega
                    have hi2 : 4 * (G : Int) + 2 < (r : Int) := by omega
                    have hi3 : 4 * (G : Int) + 3 < (r : Int) := by omega
                    clear hcel hkL hW
                    have hsB2 : B ≤ wr.heap.size := by rw [← HB.out]; exact hb.size
                    go_quiet (fail)
                    go_wp2_with fail
                    refine (hSine _).mono ?_
                    rintro e w5 ⟨rfl, k5⟩
                    have B5 := (below_drewN hb nq).trans (k5.mono hsB2)
                    have hh5 : Blk w5 H 65 (qC q) := Blk.below (w := wr.drewN nq) hh k5 hHs
                    have hat5 : ByAt w5 g L := ByAt.below (w := wr.drewN nq) hat k5 hat.1
                    have hT5 : TurnsAt w5 M := TurnsAt.below (w := wr.drewN nq) hT k5 hMs
                    have hHs5 : H < w5.heap.size := Nat.lt_of_lt_of_le hHs k5.size
                    have hMs5 : M < w5.heap.size := Nat.lt_of_lt_of_le hMs k5.size
                    have hlk := turns_look hT5 j hlt
                    obtain ⟨Y, hY⟩ : ∃ Y, Y = x0 + x1 * 256 + x2 * 65536 + x3 * 16777216 := ⟨_, rfl⟩
                    have hYe : (x0 : Int) + (x1 : Int) * 256 + (x2 : Int) * 65536 + (x3 : Int) * 16777216 = (Y : Int) := by omega
                    have hY2 : Y < 4294967296 := by omega
                    rw [← hY] at hsn
                    have hS2 := sinN_lt j hlt
                    have hT2 := turnN_ok j hlt
                    generalize sinN j = S at *
                    generalize turnN j = T at *
                    obtain ⟨Z, hZ⟩ : ∃ Z, Z = (xa + F + Y + S) % 4294967296 := ⟨_, rfl⟩
                    rw [← hZ] at hsn
                    have hZ2 : Z < 4294967296 := by omega
                    have hZe : (((xa : Int) + (F : Int) + (Y : Int)) % 4294967296 + (S : Int)) % 4294967296 = (Z : Int) := by omega
                    clear hh hat hT hb hHs hMs k5 hY hZ hc0 hc1 hc2 hc3
                    rw [hYe]
                    clear hYe
                    have HZe := Lib.hid hZe
                    clear hZe
                    go_wp2_with fail
                    rw [HZe.out]
                    have ht0 : (0 : Int) ≤ (T : Int) := by omega
                    have ht1 : (0 : Int) ≤ 32 - (T : Int) := by omega
                    have ht2 : (T : Int) < 32 := by omega
                    go_quiet (fail)
                    go_wp2_with fail
                    have hrt := rot32 Z T hZ2
                    go_roundw
                    case rel => exact ⟨j + 1, by omega, by go_num, by rw [hnx, hsn], by rw [hnx, hsn, hrt, mod32], by rw [hnx, hsn], by rw [hnx, hsn], hh5, hat5, hT5, below_drewN B5 nq, hHs5, hMs5⟩
                    case measure => simp [intOf] <;> omega
                · skip
                  obtain rfl : j = 64 := by omega
                  have hx := hst 64
                  generalize hX : stepsN L (64 * k) q 64 = x at *
                  obtain ⟨xa, xb, xc, xd⟩ := x
                  dsimp only
                  go_upto_region 33 with (fail)
                  have hsB2 : B ≤ wr.heap.size := by rw [← HB.out]; exact hb.size
                  have hx2 := Blk.new wr 65 (qC ⟨xa, xb, xc, xd⟩)
                  have hh2 := hh.alloc (.cells (qC ⟨xa, xb, xc, xd⟩) 65)
                  have al := (Below.refl wr.heap.size wr).alloc (Nat.le_refl _) (.cells (qC ⟨xa, xb, xc, xd⟩) 65)
                  have hat2 := hat.below al hat.1
                  have hT2 := hT.below al hMs
                  have hb2 := hb.alloc hsB2 (.cells (qC ⟨xa, xb, xc, xd⟩) 65)
                  have hHX : H < wr.heap.size := hHs
                  have hMX : M < wr.heap.size := hMs
                  have hgX : g < wr.heap.size := hat.1
                  have hXs : wr.heap.size < (wr.alloc (.cells (qC ⟨xa, xb, xc, xd⟩) 65)).heap.size := by simp
                  change Code.wp _ _ _ _ (wr.alloc (.cells (qC ⟨xa, xb, xc, xd⟩) 65))
                  generalize wr.alloc (.cells (qC ⟨xa, xb, xc, xd⟩) 65) = w2 at *
                  generalize wr.heap.size = X at *
                  clear hh hat hT hb hHs hMs al
                  go_loopw [186] (fun i wr => ∃ t : Nat, t ≤ 4 ∧ i = .int .i64 t ∧ Blk wr H 65 (mixC q ⟨xa, xb, xc, xd⟩ t) ∧ Blk wr X 65 (qC ⟨xa, xb, xc, xd⟩) ∧ ByAt wr g L ∧ TurnsAt wr M ∧ Below B w wr ∧ X < wr.heap.size) (fun i _ => 4 - (intOf i).toNat)
                  case atStart => exact ⟨0, by omega, rfl, hh2, hx2, hat2, hT2, hb2, hXs⟩
                  case round =>
                    clear hh2 hx2 hat2 hT2 hb2 hXs
                    obtain ⟨t, ht, rfl, hh, hx2, hat, hT, hb, hXs⟩ := hrel
                    by_cases hlt : t < 4
                    · have hc1 := hx2.cv t _ (qC_at _ t hlt)
                      have hc2 := hh.cv t _ (mix_at q ⟨xa, xb, xc, xd⟩ t hlt)
                      have hfz := hh.fz t
                      have hset := mix_set q ⟨xa, xb, xc, xd⟩ t hlt
                      have hu := qN_lt hq t
                      have hv := qN_lt hx t
                      generalize qN q t = u at *
                      generalize qN ⟨xa, xb, xc, xd⟩ t = v at *
                      have hwr := mod32 u v
                      have hh3 := set_row hh hset
                      have hx3 : Blk (wr.setCell ⟨H, t, none⟩ (.int .u32 (((u + v) % 4294967296 : Nat) : Int))) X 65 (qC ⟨xa, xb, xc, xd⟩) := (Below.heap_setCell wr ⟨H, t, none⟩ _ X (by show X ≠ H; omega)).trans hx2
                      have hat3 : ByAt (wr.setCell ⟨H, t, none⟩ (.int .u32 (((u + v) % 4294967296 : Nat) : Int))) g L := hat.same (Below.heap_setCell wr ⟨H, t, none⟩ _ g (by show g ≠ H; omega)) (by rw [setCell_size]; exact Nat.le_refl _)
                      have hT3 : TurnsAt (wr.setCell ⟨H, t, none⟩ (.int .u32 (((u + v) % 4294967296 : Nat) : Int))) M := (Below.heap_setCell wr ⟨H, t, none⟩ _ M (by show M ≠ H; omega)).trans hT
                      have hb3 := hb.setCell (p := ⟨H, t, none⟩) hH (.int .u32 (((u + v) % 4294967296 : Nat) : Int))
                      have hXs3 : X < (wr.setCell ⟨H, t, none⟩ (.int .u32 (((u + v) % 4294967296 : Nat) : Int))).heap.size := by rw [setCell_size]; exact hXs
                      have HWR := Lib.hid hwr
                      clear hh hx2 hat hT hb hXs hset hwr
                      go_wp2_with fail
                      rw [HWR.out]
                      generalize wr.setCell ⟨H, t, none⟩ (.int .u32 (((u + v) % 4294967296 : Nat) : Int)) = w3 at *
                      go_wp2_with fail
                      go_roundw
                      case rel => exact ⟨t + 1, by omega, by go_num, hh3, hx3, hat3, hT3, hb3, hXs3⟩
                      case measure => simp [intOf] <;> omega
                    · obtain rfl : t = 4 := by omega
                      rw [mix_four, ← hbk] at hh
                      go_wp2_with fail
                      have hrr := HR.out
                      refine ⟨⟨k + 1, _, cc - 64, by omega, by rw [show 64 * N - 64 * (k + 1) = r - 64 by omega], fun h => ?_, by omega, by omega, hh, hat, hT, hb, by omega, by omega⟩, ?_⟩
                      · rw [if_neg (by omega), show 64 * (k + 1) = 64 * k + 64 by omega]
                      · show r - 64 < r
                        omega
            · skip
              obtain rfl : k = N := by omega
              have hdN : decide (0 < 64 * k - 64 * k) = false := decide_eq_false (by omega)
              have hd0 : decide ((0 : Int) < ((64 * k - 64 * k : Nat) : Int)) = false := decide_eq_false (by omega)
              have hR2 : Hid (md5L l = outN (blocksN L k)) := by
                show _ = _
                unfold md5L
                rw [← HLL.out, ← HN.out]
              have hq := blocksN_lt L k
              generalize blocksN L k = q at *
              rw [Nat.sub_self] at hdN hd0 ⊢
              clear hlt hp hk hrc
              go_wp2_with fail
              clear hat hT hdN hd0
              go_loopw [19, 201] (fun o i wr => ∃ t : Nat, t ≤ 4 ∧ i = .int .i64 t ∧ o = .string ⟨(outK q t).toArray⟩ ∧ Blk wr H 65 (qC q) ∧ Below B w wr ∧ H < wr.heap.size) (fun _ i _ => 4 - (intOf i).toNat)
              case atStart => exact ⟨0, by omega, rfl, rfl, hh, hb, hHs⟩
              case round =>
                clear hh hb hHs hMs
                obtain ⟨t, ht, rfl, rfl, hh, hb, hHs⟩ := hrel
                by_cases hlt : t < 4
                · have hc1 := hh.cv t _ (qC_at q t hlt)
                  have hu := qN_lt hq t
                  have hol := outK_len q t
                  have hoe : outK q (t + 1) = outK q t ++ leN (qN q t) 4 := rfl
                  generalize qN q t = u at *
                  generalize outK q t = O at *
                  have HOE := Lib.hid hoe
                  clear hoe
                  go_wp2_with fail
                  go_loopw [19, 21, 205] (fun o x i wr => ∃ z : Nat, z ≤ 4 ∧ i = .int .i64 z ∧ o = .string ⟨(O ++ leN u z).toArray⟩ ∧ x = .int .u32 ((u / 256 ^ z : Nat) : Int) ∧ Blk wr H 65 (qC q) ∧ Below B w wr ∧ H < wr.heap.size) (fun _ _ i _ => 4 - (intOf i).toNat)
                  case atStart => exact ⟨0, by omega, rfl, by simp [leN], by simp, hh, hb, hHs⟩
                  case round =>
                    clear hh hb hHs hc1
                    obtain ⟨z, hz, rfl, rfl, rfl, hh, hb, hHs⟩ := hrel
                    by_cases hlz : z < 4
                    · have HX : Hid (u / 256 ^ (z + 1) = u / 256 ^ z / 256) := by show _ = _; rw [Nat.pow_succ, ← Nat.div_div_eq_div_mul]
                      have HP : Hid (O ++ leN u (z + 1) = (O ++ leN u z) ++ [UInt8.ofNat (u / 256 ^ z % 256)]) := by show _ = _; rw [leN_snoc, List.append_assoc]
                      have hy : u / 256 ^ z < 4294967296 := Nat.lt_of_le_of_lt (Nat.div_le_self _ _) hu
                      have hol2 : (O ++ leN u z).length = 4 * t + z := by rw [List.length_append, hol, leN_len]
                      generalize O ++ leN u z = OO at *
                      generalize u / 256 ^ z = y at *
                      have hob := md_digit wr y
                      have hsB2 : B ≤ wr.heap.size := by rw [← HB.out]; exact hb.size
                      have hh2 := hh.alloc (.cells #[.int .u8 ((y : Int) % 256)] 5)
                      have hb2 := hb.alloc hsB2 (.cells #[.int .u8 ((y : Int) % 256)] 5)
                      have hs2 : H < (wr.alloc (.cells #[.int .u8 ((y : Int) % 256)] 5)).heap.size := by simp; omega
                      go_wp2_with fail
                      refine ⟨⟨z + 1, by omega, by go_num, ?_, ?_, hh2, hb2, hs2⟩, ?_⟩
                      · rw [HP.out, ba_app]
                      · rw [HX.out]
                        exact congrArg (Value.int .u32) (by omega)
                      · simp [intOf] <;> omega
                    · obtain rfl : z = 4 := by omega
                      rw [← HOE.out] at *
                      go_wp2_with fail
                      go_roundw
                      case rel => exact ⟨t + 1, by omega, by go_num, by rw [HOE.out], hh, hb, hHs⟩
                      case measure => simp [intOf] <;> omega
                · obtain rfl : t = 4 := by omega
                  rw [outK_four, ← hR2.out]
                  go_wp2_with fail
                  go_ret
                  exact ⟨rfl, by rw [HB.out]; exact hb⟩

end Go.Proofs.YtlfeholphngilaaGreatDoor
