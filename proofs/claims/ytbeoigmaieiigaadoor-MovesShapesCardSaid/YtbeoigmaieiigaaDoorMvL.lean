/- again of the moves. -/
import Derived.Test.YtbeoigmaieiigaaDoorMvK
namespace Go.Proofs.YtbeoigmaieiigaaDoor
open Go.RowKit

theorem lmn_one (x : Int) : lmn [x] = x ∧ lmx [x] = x := by simp [lmn, lmx]
theorem lmn_two (x y : Int) : lmn [x, y] = min x y ∧ lmx [x, y] = max x y := by simp [lmn, lmx]
/-- What a walk of again keeps. -/
structure MA (w : World) (A : Ar) (v u : Value) (l : List Int) (W : World) : Prop where
  k : MK1 w A v W
  rl : RdI w.heap.size W u l
theorem MA.far {w W W' : World} {A : Ar} {v u : Value} {l : List Int} (h : MA w A v u l W) (hb : Below (w.heap.size + 2) W W') (hl : Ru.Lay W') : MA w A v u l W' := ⟨h.k.far hb hl, h.rl.below (hb.mono (by omega))⟩
theorem MA.next {w W W' : World} {A : Ar} {v u : Value} {l : List Int} (h : MA w A v u l W) (hb : Below W.heap.size W W') : MA w A v u l W' := h.far (hb.mono h.k.sz) (h.k.lay.next hb)
theorem MA.rln {w W : World} {A : Ar} {v u : Value} {l : List Int} (h : MA w A v u l W) : RdI W.heap.size W u l := h.rl.mono h.k.bel.size
theorem MA.new {w : World} {A : Ar} {v u : Value} {l : List Int} (hw : Ru.Lay w) (hv : RdI w.heap.size w v A.z) (hu : RdI w.heap.size w u l) : MA w A v u l ((w.alloc (.cells #[.int .i64 A.k, .int .i64 A.r, .int .i64 A.a, .int .i64 A.b, v] 25)).alloc (.cells #[.int .i64 0, .int .i64 0, .int .i64 0, .int .i64 0, .slice none 0 0] 25)) :=
  ⟨MK1.new hw hv, hu.below ((bel1 _ _).trans ((bel1 _ _).mono (by simp)))⟩
/-- blank that is none. -/
theorem blank_no {k r a b : Int} {n : Nat} (h : ck ⟨k, r, a, b, List.replicate n 0⟩ ≠ 0) (w : World) (hw : Ru.Lay w) (hn : (if r = 2 then a * b else a) = (n : Int)) (hl : n ≤ 1000000) :
    Calls Tryd.prog 45 #[.int .i64 k, .int .i64 r, P2 a b] w fun e w' => ∃ q c, e = .returned (.tuple #[A5 0 0 0 0 (.slice q 0 c), .int .i64 (ck ⟨k, r, a, b, List.replicate n 0⟩)]) ∧ Below w.heap.size w w' := by
  refine (blank_any k r a b n w hw hn hl).mono ?_
  rw [mk_no h]
  rintro e w' ⟨u, h1, h2, h3⟩
  rcases h2 with ⟨_, rfl, _⟩ | ⟨g, rfl, _, _⟩
  · exact ⟨_, _, h1, h3⟩
  · exact ⟨_, _, h1, h3⟩
/-- The numbers again and again, of which the first o have been written. -/
def agF (z : List Int) (o i : Nat) : Int := if i < o then z.getD (i % z.length) 0 else 0
theorem agF_zero (z : List Int) (i : Nat) : agF z 0 i = 0 := by unfold agF; rw [if_neg (by omega)]
theorem agF_next {z : List Int} {o c i n : Nat} (ho : o % z.length = 0) (hc : c = min z.length (n - o)) (_ : i < n) : (if o ≤ i ∧ i < o + c then z.getD (i - o) 0 else agF z o i) = agF z (o + c) i := by
  unfold agF
  by_cases h : o ≤ i ∧ i < o + c
  · rw [if_pos h, if_pos h.2]
    have hlt : i - o < z.length := by omega
    have : i % z.length = i - o := by
      obtain ⟨q, hq⟩ := Nat.dvd_of_mod_eq_zero ho
      obtain ⟨d, rfl⟩ : ∃ d, i = o + d := ⟨i - o, by omega⟩
      rw [Nat.add_sub_cancel_left] at hlt ⊢
      rw [hq, Nat.mul_add_mod, Nat.mod_eq_of_lt hlt]
    rw [this]
  · rw [if_neg h]
    by_cases h2 : i < o
    · rw [if_pos h2, if_pos (by omega)]
    · rw [if_neg h2, if_neg (by omega)]
/-- What the copying loop keeps. -/
structure Kg (w : World) (A : Ar) (v u : Value) (l : List Int) (r a b : Int) (n g gb o : Nat) (q : Option Addr) (W : World) : Prop where
  m : MA w A v u l W
  bx : R5 W gb A.k r a b (.slice (some ⟨g, 0, none⟩) n n)
  row : rowZ W g n (agF A.z o)
  pos : o < n → q = some ⟨g, o, none⟩ ∧ o % A.z.length = 0
theorem Kg.next {w W W' : World} {A : Ar} {v u : Value} {l : List Int} {r a b : Int} {n g gb o c : Nat} {q q' : Option Addr} (k : Kg w A v u l r a b n g gb o q W) (h1 : w.heap.size + 1 < g) (h2 : gb ≠ g) (ho : o < n) (hc : c = min A.z.length (n - o))
    (hq : o + c < n → q' = some ⟨g, o + c, none⟩) (hb : But g W W') (hL : Ru.Lay W') (hr : rowZ W' g n (fun i => if o ≤ i ∧ i < o + c then A.z.getD (i - o) 0 else agF A.z o i)) : Kg w A v u l r a b n g gb (o + c) q' W' :=
  ⟨k.m.far (hb.below (by omega)) hL, (hb.block _ h2).trans k.bx, hr.congr fun i hi => agF_next (k.pos ho).2 hc hi, fun h => ⟨hq h, by
    have := (k.pos ho).2
    have e : c = A.z.length := by omega
    rw [e, Nat.add_mod_right]; exact this⟩⟩

/-- The lengths as again has written them. -/
structure KgL (w : World) (A : Ar) (v u : Value) (l : List Int) (gl : Nat) (a b : Int) (W : World) : Prop where
  m : MA w A v u l W
  bx : R2 W gl a b
theorem R2.put0 {w : World} {g : Nat} {a b : Int} (h : R2 w g a b) (x : Int) : R2 (w.setCell ⟨g, 0, none⟩ (.int .i64 x)) g x b := by
  unfold R2 at h ⊢
  simp [World.setCell, Array.getElem?_modify, h]
theorem R2.put1 {w : World} {g : Nat} {a b : Int} (h : R2 w g a b) (x : Int) : R2 (w.setCell ⟨g, 1, none⟩ (.int .i64 x)) g a x := by
  unfold R2 at h ⊢
  simp [World.setCell, Array.getElem?_modify, h]
theorem R2.fr {w : World} {g : Nat} {a b : Int} (h : R2 w g a b) (i : Nat) : w.frozen? ⟨g, i, none⟩ = false := Lib.frozen_of_heap h i
theorem KgL.put0 {w W : World} {A : Ar} {v u : Value} {l : List Int} {gl : Nat} {a b : Int} (h : KgL w A v u l gl a b W) (h3 : 0 + 1 ≤ w.heap.size) (hg : w.heap.size + 2 ≤ gl) (x : Int) : KgL w A v u l gl x b (W.setCell ⟨gl, 0, none⟩ (.int .i64 x)) :=
  have hb : Below (w.heap.size + 2) W (W.setCell ⟨gl, 0, none⟩ (.int .i64 x)) := (Below.refl _ _).setCell (p := ⟨gl, 0, none⟩) hg _
  ⟨h.m.far hb (h.m.k.lay.below (by omega) hb), h.bx.put0 x⟩
theorem KgL.put1 {w W : World} {A : Ar} {v u : Value} {l : List Int} {gl : Nat} {a b : Int} (h : KgL w A v u l gl a b W) (h3 : 0 + 1 ≤ w.heap.size) (hg : w.heap.size + 2 ≤ gl) (x : Int) : KgL w A v u l gl a x (W.setCell ⟨gl, 1, none⟩ (.int .i64 x)) :=
  have hb : Below (w.heap.size + 2) W (W.setCell ⟨gl, 1, none⟩ (.int .i64 x)) := (Below.refl _ _).setCell (p := ⟨gl, 1, none⟩) hg _
  ⟨h.m.far hb (h.m.k.lay.below (by omega) hb), h.bx.put1 x⟩
theorem MA.num {w W : World} {A : Ar} {v : Value} {p : Option Addr} {n cu : Nat} {l : List Int} (h : MA w A v (.slice p n cu) l W) (hl : 0 < l.length) : ∃ bu ou, p = some ⟨bu, ou, none⟩ ∧ ∀ W', RdI w.heap.size W' (.slice p n cu) l → ∀ j (hj : j < l.length), W'.cell? ⟨bu, ou + j, none⟩ = some (.int .i64 l[j]) := by
  obtain ⟨p', cap', e, h1, h2, h3⟩ := h.rl
  cases e
  obtain ⟨b, off, rfl, hb, hc⟩ := h3 (List.length_pos_iff.1 hl)
  refine ⟨b, off, rfl, fun W' h' => ?_⟩
  obtain ⟨p', cap', e, _, _, h3'⟩ := h'
  cases e
  obtain ⟨b', off', e', hb', hc'⟩ := h3' (List.length_pos_iff.1 hl)
  cases e'
  exact hc'

set_option maxRecDepth 100000 in
set_option maxHeartbeats 16000000 in
theorem again1_any (A : Ar) (v u : Value) (x : Int) (w : World) (hw : Ru.Lay w) (hA : Good A) (hz : 0 < A.z.length) (hv : RdI w.heap.size w v A.z) (hu : RdI w.heap.size w u [x]) :
    Calls Tryd.prog 49 #[A5 A.k A.r A.a A.b v, .int .i64 1, u] w (RetE (orNo (if x < 0 then 13 else if 400 < x then 15 else 0) ⟨A.k, 1, x, 0, agn x.toNat A.z⟩) (if x < 0 then 13 else if 400 < x then 15 else 0) w) := by
  have hl : A.z.length ≤ 400 := hA.len4
  have HMn := Lib.hid (fun W h => min_any u [x] W h (by simp) (by simp))
  have HMx := Lib.hid (fun W h => max_any u [x] W h (by simp) (by simp))
  have HK := Lib.hid (MA.new (A := A) hw hv hu)
  have HW3 := Lib.hid hw.size
  have x0 := HK.out.k.box.c0; have x1 := HK.out.k.box.c1; have x2 := HK.out.k.box.c2; have x3 := HK.out.k.box.c3; have x4 := HK.out.k.box.c4
  obtain ⟨p, cap, rfl, hcap, hcap2, hcell⟩ := hv
  obtain ⟨pu, cu, rfl, hcu, hcu2, hcellu⟩ := hu
  have hcellu2 := hcellu (by simp)
  obtain ⟨bu, ou, rfl, _, _⟩ := hcellu2
  clear hcell hcellu hw
  simp only [List.length_cons, List.length_nil, Nat.zero_add] at hcu HMn HMx HK ⊢
  rw [(lmn_one x).1] at HMn
  rw [(lmn_one x).2] at HMx
  by_cases h1 : x < 0
  · rw [if_pos h1, orNo_no (by decide)]
    go_enter Tryd.func49, Tryd.ntmps49
    go_wp2_with (go_at_call 56; (with_reducible refine (HMn.out _ HK.out.rln).mono ?_); rintro e w1 ⟨rfl, hb⟩; have HK2 := Lib.hid (HK.out.next hb); clear HK x0 x1 x2 x3 x4; have HK := HK2; clear HK2; have x0 := HK.out.k.box.c0; have x1 := HK.out.k.box.c1; have x2 := HK.out.k.box.c2; have x3 := HK.out.k.box.c3; have x4 := HK.out.k.box.c4; clear hb; have y0 := HK.out.k.res.c0; have y1 := HK.out.k.res.c1; have y2 := HK.out.k.res.c2; have y3 := HK.out.k.res.c3; have y4 := HK.out.k.res.c4; have f0 := HK.out.k.res.fr 0; have f1 := HK.out.k.res.fr 1; have f2 := HK.out.k.res.fr 2; have f3 := HK.out.k.res.fr 3; have f4 := HK.out.k.res.fr 4; have HS := Lib.hid (HK.out.k.res.set 0 0 0 0 (.slice none 0 0)); have z0 := HS.out.c0; have z1 := HS.out.c1; have z2 := HS.out.c2; have z3 := HS.out.c3; have z4 := HS.out.c4)
    exact bodyPost_ret (v := .tuple #[A5 0 0 0 0 (.slice none 0 0), .int .i64 13]) (by simp [results, Tryd.results49, go_sem, z0, z1, z2, z3, z4]) rfl (retE_no _ (st5_below _ _ _ _ _ (by omega) HK.out.k.bel))
  · rw [if_neg h1]
    by_cases h2 : 400 < x
    · rw [if_pos h2, orNo_no (by decide)]
      go_enter Tryd.func49, Tryd.ntmps49
      go_wp2_with (first
        | (go_at_call 56; (with_reducible refine (HMn.out _ HK.out.rln).mono ?_); rintro e w1 ⟨rfl, hb⟩; have HK2 := Lib.hid (HK.out.next hb); clear HK x0 x1 x2 x3 x4; have HK := HK2; clear HK2; have x0 := HK.out.k.box.c0; have x1 := HK.out.k.box.c1; have x2 := HK.out.k.box.c2; have x3 := HK.out.k.box.c3; have x4 := HK.out.k.box.c4; clear hb)
        | (go_at_call 57; (with_reducible refine (HMx.out _ HK.out.rln).mono ?_); rintro e w1 ⟨rfl, hb⟩; have HK2 := Lib.hid (HK.out.next hb); clear HK x0 x1 x2 x3 x4; have HK := HK2; clear HK2; have x0 := HK.out.k.box.c0; have x1 := HK.out.k.box.c1; have x2 := HK.out.k.box.c2; have x3 := HK.out.k.box.c3; have x4 := HK.out.k.box.c4; clear hb; have y0 := HK.out.k.res.c0; have y1 := HK.out.k.res.c1; have y2 := HK.out.k.res.c2; have y3 := HK.out.k.res.c3; have y4 := HK.out.k.res.c4; have f0 := HK.out.k.res.fr 0; have f1 := HK.out.k.res.fr 1; have f2 := HK.out.k.res.fr 2; have f3 := HK.out.k.res.fr 3; have f4 := HK.out.k.res.fr 4; have HS := Lib.hid (HK.out.k.res.set 0 0 0 0 (.slice none 0 0)); have z0 := HS.out.c0; have z1 := HS.out.c1; have z2 := HS.out.c2; have z3 := HS.out.c3; have z4 := HS.out.c4))
      exact bodyPost_ret (v := .tuple #[A5 0 0 0 0 (.slice none 0 0), .int .i64 15]) (by simp [results, Tryd.results49, go_sem, z0, z1, z2, z3, z4]) rfl (retE_no _ (st5_below _ _ _ _ _ (by omega) HK.out.k.bel))
    · have hx0 : 0 ≤ x := by omega
      have hx4 : x ≤ 400 := by omega
      rw [if_neg h2]
      rw [orNo_yes rfl]
      go_enter Tryd.func49, Tryd.ntmps49
      go_wp2_with (first
        | (go_at_call 56; (with_reducible refine (HMn.out _ HK.out.rln).mono ?_); rintro e w1 ⟨rfl, hb⟩; have HK2 := Lib.hid (HK.out.next hb); clear HK x0 x1 x2 x3 x4; have HK := HK2; clear HK2; have x0 := HK.out.k.box.c0; have x1 := HK.out.k.box.c1; have x2 := HK.out.k.box.c2; have x3 := HK.out.k.box.c3; have x4 := HK.out.k.box.c4; clear hb)
        | (go_at_call 57; (with_reducible refine (HMx.out _ HK.out.rln).mono ?_); rintro e w1 ⟨rfl, hb⟩; have HK2 := Lib.hid (HK.out.next hb); clear HK x0 x1 x2 x3 x4; have HK := HK2; clear HK2; have x0 := HK.out.k.box.c0; have x1 := HK.out.k.box.c1; have x2 := HK.out.k.box.c2; have x3 := HK.out.k.box.c3; have x4 := HK.out.k.box.c4; clear hb))
      obtain ⟨bq, oq, heq, hnum⟩ := HK.out.num (by simp)
      cases heq
      have HNum := Lib.hid hnum
      clear hnum
      have HL0 : Hid (KgL w A (.slice p A.z.length cap) (.slice (some ⟨bu, ou, none⟩) 1 cu) [x] w1.heap.size 0 0 (w1.alloc (.cells #[.int .i64 0, .int .i64 0] 22))) := ⟨HK.out.next (bel1 w1 _), R2.new w1 0 0⟩
      have hgs : w.heap.size + 2 ≤ w1.heap.size := HK.out.k.sz
      have hq0 := HNum.out _ HL0.out.m.rl 0 (by simp)
      rw [Nat.add_zero, List.getElem_cons_zero] at hq0
      clear HK x0 x1 x2 x3 x4
      generalize w1.alloc (.cells #[.int .i64 0, .int .i64 0] 22) = W1 at HL0 hq0 ⊢
      have l0 := HL0.out.bx.c0; have l1 := HL0.out.bx.c1; have lf := HL0.out.bx.fr 0
      have HL1 := Lib.hid (HL0.out.put0 HW3.out hgs x)
      have hw1 : IntKind.i64.wrap 1 = 1 := by rw [IntKind.wrap_i64]; omega
      have hzb : ((A.z.length : Int) == 0) = false := by simpa using (show ¬ ((A.z.length : Int) = 0) by omega)
      obtain ⟨n, hn⟩ : ∃ n : Nat, x = n := ⟨x.toNat, by omega⟩
      have hn4 : n ≤ 400 := by omega
      have hck : ck ⟨A.k, 1, x, 0, List.replicate n 0⟩ = 0 := good_ck ⟨hA.kind, Sh.s1 x hx0 hx4, by simp [cn, hn], fun _ => zeros_all _⟩
      have HBl := Lib.hid (fun W hw => blank_ok hck W hw (by simp; omega) (by omega))
      have HNn : Hid (x.toNat = n) := by unfold Hid; rw [hn]; rfl
      clear hn hck
      have v0 := HL1.out.bx.c0; have v1 := HL1.out.bx.c1; have xb0 := HL1.out.m.k.box.c0; have xb1 := HL1.out.m.k.box.c1; have xb2 := HL1.out.m.k.box.c2; have xb3 := HL1.out.m.k.box.c3; have xb4 := HL1.out.m.k.box.c4
      refine wp_loop_rounds 8 ?_
      rw [rounds_succ]
      go_wp2
      rw [rounds_succ]
      go_wp2_with (go_at_call 45; (with_reducible refine (HBl.out _ HL1.out.m.k.lay).mono ?_); rintro e w2 ⟨g, rfl, hg1, hg2, hrow, hb⟩; have hgg : w.heap.size + 1 < g := (by have := HL1.out.m.k.sz; omega); have HM2 := Lib.hid ((HL1.out.m.next hb).next (bel1 w2 (.cells #[.int .i64 A.k, .int .i64 1, .int .i64 x, .int .i64 0, .slice (some ⟨g, 0, none⟩) n n] 25))); have HR2 := Lib.hid (hrow.alloc (.cells #[.int .i64 A.k, .int .i64 1, .int .i64 x, .int .i64 0, .slice (some ⟨g, 0, none⟩) n n] 25)); have HB2 := Lib.hid (R5.new w2 A.k 1 x 0 (.slice (some ⟨g, 0, none⟩) n n)); clear hb hrow hg1 v0 v1 xb0 xb1 xb2 xb3 xb4 l0 l1 lf hq0; have b0 := HB2.out.c0; have b1 := HB2.out.c1; have b2 := HB2.out.c2; have b3 := HB2.out.c3; have b4 := HB2.out.c4; have x4 := HM2.out.k.box.c4)
      have HG0 : Hid (Kg w A (.slice p A.z.length cap) (.slice (some ⟨bu, ou, none⟩) 1 cu) [x] 1 x 0 n g w2.heap.size 0 (some ⟨g, 0, none⟩) (w2.alloc (.cells #[.int .i64 A.k, .int .i64 1, .int .i64 x, .int .i64 0, .slice (some ⟨g, 0, none⟩) n n] 25))) := ⟨HM2.out, HB2.out, HR2.out.congr fun i _ => by rw [agF_zero], fun _ => ⟨rfl, Nat.zero_mod _⟩⟩
      have hgb : w2.heap.size ≠ g := by omega
      clear HM2 HB2 HR2 b0 b1 b2 b3 b4 x4 HL1
      generalize w2.alloc (.cells #[.int .i64 A.k, .int .i64 1, .int .i64 x, .int .i64 0, .slice (some ⟨g, 0, none⟩) n n] 25) = W5 at HG0 ⊢
      go_loopg [13] n (fun gk q wr => ∃ (o : Nat) (qa : Option Addr), o + gk = n ∧ q = .slice qa gk gk ∧ Kg w A (.slice p A.z.length cap) (.slice (some ⟨bu, ou, none⟩) 1 cu) [x] 1 x 0 n g w2.heap.size o qa wr)
      case atStart => exact ⟨0, some ⟨g, 0, none⟩, by omega, rfl, HG0.out⟩
      case round =>
        obtain ⟨o, qa, hog, rfl, hk⟩ := hrel
        have HG := Lib.hid hk
        clear hk HG0
        by_cases h0 : gk = 0
        · subst h0
          have hz0 : ¬ ((0 : Int) < ((0 : Nat) : Int)) := by omega
          have HF : Hid (rowZ wr g n (fun i => (agn n A.z).getD i 0)) := HG.out.row.congr fun i hi => by unfold agF; rw [if_pos (by omega), agn_getD hi]
          have b0 := HG.out.bx.c0; have b1 := HG.out.bx.c1; have b2 := HG.out.bx.c2; have b3 := HG.out.bx.c3; have b4 := HG.out.bx.c4
          have y0 := HG.out.m.k.res.c0; have y1 := HG.out.m.k.res.c1; have y2 := HG.out.m.k.res.c2; have y3 := HG.out.m.k.res.c3; have y4 := HG.out.m.k.res.c4; have f0 := HG.out.m.k.res.fr 0; have f1 := HG.out.m.k.res.fr 1; have f2 := HG.out.m.k.res.fr 2; have f3 := HG.out.m.k.res.fr 3; have f4 := HG.out.m.k.res.fr 4; have HS := Lib.hid (HG.out.m.k.res.set A.k 1 x 0 (.slice (some ⟨g, 0, none⟩) n n)); have z0 := HS.out.c0; have z1 := HS.out.c1; have z2 := HS.out.c2; have z3 := HS.out.c3; have z4 := HS.out.c4
          go_wp2
          refine bodyPost_ret (v := .tuple #[A5 A.k 1 x 0 (.slice (some ⟨g, 0, none⟩) n n), .int .i64 0]) (by simp [results, Tryd.results49, go_sem, z0, z1, z2, z3, z4]) rfl ?_
          exact ⟨_, rfl, zf_new (by rw [HNn.out]; exact agn_len _ _) (World.rowIs.of_block (by rw [HNn.out]; exact HF.out.zf) (st5_other _ _ _ _ _ (by omega))) (by omega) (by omega), st5_below _ _ _ _ _ (by omega) HG.out.m.k.bel⟩
        · have hg0 : (0 : Int) < (gk : Int) := by omega
          have hon : o < n := by omega
          obtain ⟨rfl, hmod⟩ := HG.out.pos hon
          obtain ⟨c, hc⟩ : ∃ c, c = min A.z.length gk := ⟨_, rfl⟩
          have hc0 : 0 < c := by omega
          obtain ⟨w6, hcp, hrow, hbut⟩ := copy_run HG.out.row o gk gk HG.out.m.k.rd c hc (by omega)
          have HC := Lib.hid hc
          have HRow := Lib.hid hrow
          have HBut := Lib.hid hbut
          have hcg : c ≤ gk := by omega
          have x4 := HG.out.m.k.box.c4
          clear hrow hbut hc hmod h0
          by_cases hcn : c = gk
          · have HNx : Hid (Kg w A (.slice p A.z.length cap) (.slice (some ⟨bu, ou, none⟩) 1 cu) [x] 1 x 0 n g w2.heap.size (o + c) (some ⟨g, o, none⟩) w6) := HG.out.next hgg hgb hon (by rw [show n - o = gk by omega]; exact HC.out) (fun h => absurd h (by omega)) HBut.out (HG.out.m.k.lay.below HW3.out (HBut.out.below (by omega))) HRow.out
            subst hcn
            go_wp2
            go_roundg 0
            case measure => omega
            case rel => exact ⟨o + c, _, by omega, rfl, HNx.out⟩
          · have HNx : Hid (Kg w A (.slice p A.z.length cap) (.slice (some ⟨bu, ou, none⟩) 1 cu) [x] 1 x 0 n g w2.heap.size (o + c) (some ⟨g, o + c, none⟩) w6) := HG.out.next hgg hgb hon (by rw [show n - o = gk by omega]; exact HC.out) (fun _ => rfl) HBut.out (HG.out.m.k.lay.below HW3.out (HBut.out.below (by omega))) HRow.out
            have hcl : c < gk := by omega
            have hcz : 0 < gk - c := by omega
            have hci : (c : Int) ≤ (gk : Int) := by omega
            clear hcn
            go_wp2
            go_roundg (gk - c)
            case measure => omega
            case rel => exact ⟨o + c, _, by omega, rfl, HNx.out⟩

set_option maxRecDepth 100000 in
set_option maxHeartbeats 16000000 in
theorem again2_any (A : Ar) (v u : Value) (x y : Int) (w : World) (hw : Ru.Lay w) (hA : Good A) (hv : RdI w.heap.size w v A.z) (hu : RdI w.heap.size w u [x, y]) :
    Calls Tryd.prog 49 #[A5 A.k A.r A.a A.b v, .int .i64 2, u] w (RetE (orNo (if x < 0 ∨ y < 0 then 13 else if 400 < x ∨ 400 < y ∨ 400 < x * y then 15 else if A.z.length = 0 ∧ 0 < x * y then 13 else 0) ⟨A.k, 2, x, y, agn (x * y).toNat A.z⟩) (if x < 0 ∨ y < 0 then 13 else if 400 < x ∨ 400 < y ∨ 400 < x * y then 15 else if A.z.length = 0 ∧ 0 < x * y then 13 else 0) w) := by
  have hl : A.z.length ≤ 400 := hA.len4
  have HMn := Lib.hid (fun W h => min_any u [x, y] W h (by simp) (by simp))
  have HMx := Lib.hid (fun W h => max_any u [x, y] W h (by simp) (by simp))
  have HK := Lib.hid (MA.new (A := A) hw hv hu)
  have HW3 := Lib.hid hw.size
  have x0 := HK.out.k.box.c0; have x1 := HK.out.k.box.c1; have x2 := HK.out.k.box.c2; have x3 := HK.out.k.box.c3; have x4 := HK.out.k.box.c4
  obtain ⟨p, cap, rfl, hcap, hcap2, hcell⟩ := hv
  obtain ⟨pu, cu, rfl, hcu, hcu2, hcellu⟩ := hu
  have hcellu2 := hcellu (by simp)
  obtain ⟨bu, ou, rfl, _, _⟩ := hcellu2
  clear hcell hcellu hw
  simp only [List.length_cons, List.length_nil, Nat.zero_add, Nat.reduceAdd] at hcu HMn HMx HK ⊢
  rw [(lmn_two x y).1] at HMn
  rw [(lmn_two x y).2] at HMx
  by_cases h1 : x < 0 ∨ y < 0
  · rw [if_pos h1, orNo_no (by decide)]
    have h1m : min x y < 0 := by omega
    generalize min x y = mi at h1m HMn
    clear h1
    go_enter Tryd.func49, Tryd.ntmps49
    go_wp2_with (go_at_call 56; (with_reducible refine (HMn.out _ HK.out.rln).mono ?_); rintro e w1 ⟨rfl, hb⟩; have HK2 := Lib.hid (HK.out.next hb); clear HK x0 x1 x2 x3 x4; have HK := HK2; clear HK2; have x0 := HK.out.k.box.c0; have x1 := HK.out.k.box.c1; have x2 := HK.out.k.box.c2; have x3 := HK.out.k.box.c3; have x4 := HK.out.k.box.c4; clear hb; have y0 := HK.out.k.res.c0; have y1 := HK.out.k.res.c1; have y2 := HK.out.k.res.c2; have y3 := HK.out.k.res.c3; have y4 := HK.out.k.res.c4; have f0 := HK.out.k.res.fr 0; have f1 := HK.out.k.res.fr 1; have f2 := HK.out.k.res.fr 2; have f3 := HK.out.k.res.fr 3; have f4 := HK.out.k.res.fr 4; have HS := Lib.hid (HK.out.k.res.set 0 0 0 0 (.slice none 0 0)); have z0 := HS.out.c0; have z1 := HS.out.c1; have z2 := HS.out.c2; have z3 := HS.out.c3; have z4 := HS.out.c4)
    exact bodyPost_ret (v := .tuple #[A5 0 0 0 0 (.slice none 0 0), .int .i64 13]) (by simp [results, Tryd.results49, go_sem, z0, z1, z2, z3, z4]) rfl (retE_no _ (st5_below _ _ _ _ _ (by omega) HK.out.k.bel))
  · rw [if_neg h1]
    by_cases h2 : 400 < x ∨ 400 < y
    · rw [if_pos (by omega), orNo_no (by decide)]
      have h1m : ¬ min x y < 0 := by omega
      have h2m : max x y > 400 := by omega
      generalize min x y = mi at h1m HMn
      generalize max x y = ma at h2m HMx
      clear h1 h2
      go_enter Tryd.func49, Tryd.ntmps49
      go_wp2_with (first
        | (go_at_call 56; (with_reducible refine (HMn.out _ HK.out.rln).mono ?_); rintro e w1 ⟨rfl, hb⟩; have HK2 := Lib.hid (HK.out.next hb); clear HK x0 x1 x2 x3 x4; have HK := HK2; clear HK2; have x0 := HK.out.k.box.c0; have x1 := HK.out.k.box.c1; have x2 := HK.out.k.box.c2; have x3 := HK.out.k.box.c3; have x4 := HK.out.k.box.c4; clear hb)
        | (go_at_call 57; (with_reducible refine (HMx.out _ HK.out.rln).mono ?_); rintro e w1 ⟨rfl, hb⟩; have HK2 := Lib.hid (HK.out.next hb); clear HK x0 x1 x2 x3 x4; have HK := HK2; clear HK2; have x0 := HK.out.k.box.c0; have x1 := HK.out.k.box.c1; have x2 := HK.out.k.box.c2; have x3 := HK.out.k.box.c3; have x4 := HK.out.k.box.c4; clear hb; have y0 := HK.out.k.res.c0; have y1 := HK.out.k.res.c1; have y2 := HK.out.k.res.c2; have y3 := HK.out.k.res.c3; have y4 := HK.out.k.res.c4; have f0 := HK.out.k.res.fr 0; have f1 := HK.out.k.res.fr 1; have f2 := HK.out.k.res.fr 2; have f3 := HK.out.k.res.fr 3; have f4 := HK.out.k.res.fr 4; have HS := Lib.hid (HK.out.k.res.set 0 0 0 0 (.slice none 0 0)); have z0 := HS.out.c0; have z1 := HS.out.c1; have z2 := HS.out.c2; have z3 := HS.out.c3; have z4 := HS.out.c4))
      exact bodyPost_ret (v := .tuple #[A5 0 0 0 0 (.slice none 0 0), .int .i64 15]) (by simp [results, Tryd.results49, go_sem, z0, z1, z2, z3, z4]) rfl (retE_no _ (st5_below _ _ _ _ _ (by omega) HK.out.k.bel))
    · have hx0 : 0 ≤ x := by omega
      have hx4 : x ≤ 400 := by omega
      have hy0 : 0 ≤ y := by omega
      have hy4 : y ≤ 400 := by omega
      have h1m : ¬ min x y < 0 := by omega
      have h2m : ¬ max x y > 400 := by omega
      generalize min x y = mi at h1m HMn
      generalize max x y = ma at h2m HMx
      clear h1 h2
      by_cases h3 : 400 < x * y
      · rw [if_pos (by omega), orNo_no (by decide)]
        obtain ⟨n, hn⟩ : ∃ n : Nat, x * y = n := ⟨(x * y).toNat, by omega⟩
        have hn4 : n ≤ 1000000 := by have := Int.mul_le_mul hx4 hy4 hy0 (by omega : (0:Int) ≤ 400); omega
        have hcs : ckS 2 x y = 15 := by unfold ckS; rw [if_neg (by omega), if_neg (by omega), if_pos (by unfold cn; rw [if_neg (by decide), if_neg (by decide)]; omega)]
        have hck : ck ⟨A.k, 2, x, y, List.replicate n 0⟩ = 15 := by rw [ck_zeros hA.kind (fun h => by rw [hcs] at h; cases h), hcs]
        have HBl := Lib.hid (fun W hw => blank_no (by rw [hck]; decide) W hw (by simp; exact hn) hn4)
        rw [hck] at HBl
        clear hn hck hcs h3
        go_enter Tryd.func49, Tryd.ntmps49
        go_wp2_with (first
          | (go_at_call 56; (with_reducible refine (HMn.out _ HK.out.rln).mono ?_); rintro e w1 ⟨rfl, hb⟩; have HK2 := Lib.hid (HK.out.next hb); clear HK x0 x1 x2 x3 x4; have HK := HK2; clear HK2; have x0 := HK.out.k.box.c0; have x1 := HK.out.k.box.c1; have x2 := HK.out.k.box.c2; have x3 := HK.out.k.box.c3; have x4 := HK.out.k.box.c4; clear hb)
          | (go_at_call 57; (with_reducible refine (HMx.out _ HK.out.rln).mono ?_); rintro e w1 ⟨rfl, hb⟩; have HK2 := Lib.hid (HK.out.next hb); clear HK x0 x1 x2 x3 x4; have HK := HK2; clear HK2; have x0 := HK.out.k.box.c0; have x1 := HK.out.k.box.c1; have x2 := HK.out.k.box.c2; have x3 := HK.out.k.box.c3; have x4 := HK.out.k.box.c4; clear hb))
        obtain ⟨bq, oq, heq, hnum⟩ := HK.out.num (by simp)
        cases heq
        have HNum := Lib.hid hnum
        clear hnum
        have HL0 : Hid (KgL w A (.slice p A.z.length cap) (.slice (some ⟨bu, ou, none⟩) 2 cu) [x, y] w1.heap.size 0 0 (w1.alloc (.cells #[.int .i64 0, .int .i64 0] 22))) := ⟨HK.out.next (bel1 w1 _), R2.new w1 0 0⟩
        have hgs : w.heap.size + 2 ≤ w1.heap.size := HK.out.k.sz
        have hq0 := HNum.out _ HL0.out.m.rl 0 (by simp)
        rw [Nat.add_zero, List.getElem_cons_zero] at hq0
        clear HK x0 x1 x2 x3 x4
        generalize w1.alloc (.cells #[.int .i64 0, .int .i64 0] 22) = W1 at HL0 hq0 ⊢
        have l0 := HL0.out.bx.c0; have l1 := HL0.out.bx.c1; have lf := HL0.out.bx.fr 0
        have HL1 := Lib.hid (HL0.out.put0 HW3.out hgs x)
        have hw1 : IntKind.i64.wrap 1 = 1 := by rw [IntKind.wrap_i64]; omega
        have hq1 := HNum.out _ HL1.out.m.rl 1 (by simp)
        rw [List.getElem_cons_succ, List.getElem_cons_zero] at hq1
        have lf1 := HL1.out.bx.fr 1; have l2 := HL1.out.bx.c1
        have HL2 := Lib.hid (HL1.out.put1 HW3.out hgs y)
        have v0 := HL2.out.bx.c0; have v1 := HL2.out.bx.c1; have xb0 := HL2.out.m.k.box.c0; have xb1 := HL2.out.m.k.box.c1; have xb2 := HL2.out.m.k.box.c2; have xb3 := HL2.out.m.k.box.c3; have xb4 := HL2.out.m.k.box.c4
        refine wp_loop_rounds 8 ?_
        rw [rounds_succ]
        go_wp2
        rw [rounds_succ]
        go_wp2
        rw [rounds_succ]
        go_wp2_with (go_at_call 45; (with_reducible refine (HBl.out _ HL2.out.m.k.lay).mono ?_); rintro e w2 ⟨q, c, rfl, hb⟩; have HM2 := Lib.hid ((HL2.out.m.next hb).next (bel1 w2 (.cells #[.int .i64 0, .int .i64 0, .int .i64 0, .int .i64 0, .slice q 0 c] 25))); clear hb v0 v1 xb0 xb1 xb2 xb3 xb4 l0 l1 lf hq0 hq1 lf1 l2; have y0 := HM2.out.k.res.c0; have y1 := HM2.out.k.res.c1; have y2 := HM2.out.k.res.c2; have y3 := HM2.out.k.res.c3; have y4 := HM2.out.k.res.c4; have f0 := HM2.out.k.res.fr 0; have f1 := HM2.out.k.res.fr 1; have f2 := HM2.out.k.res.fr 2; have f3 := HM2.out.k.res.fr 3; have f4 := HM2.out.k.res.fr 4; have HS := Lib.hid (HM2.out.k.res.set 0 0 0 0 (.slice none 0 0)); have z0 := HS.out.c0; have z1 := HS.out.c1; have z2 := HS.out.c2; have z3 := HS.out.c3; have z4 := HS.out.c4)
        exact bodyPost_ret (v := .tuple #[A5 0 0 0 0 (.slice none 0 0), .int .i64 15]) (by simp [results, Tryd.results49, go_sem, z0, z1, z2, z3, z4]) rfl (retE_no _ (st5_below _ _ _ _ _ (by omega) HM2.out.k.bel))
      · rw [if_neg (by omega)]
        by_cases h4 : A.z.length = 0 ∧ 0 < x * y
        · rw [if_pos h4, orNo_no (by decide)]
          have HH4 := Lib.hid h4
          clear h4
          obtain ⟨n, hn⟩ : ∃ n : Nat, x * y = n := ⟨(x * y).toNat, by have := Int.mul_nonneg hx0 hy0; omega⟩
          have hn4 : n ≤ 400 := by omega
          have hck : ck ⟨A.k, 2, x, y, List.replicate n 0⟩ = 0 := good_ck ⟨hA.kind, Sh.s2 x y hx0 hx4 hy0 hy4 (by omega), by simp [cn, hn], fun _ => zeros_all _⟩
          have HBl := Lib.hid (fun W hw => blank_ok hck W hw (by simp; exact hn) (by omega))
          have HNn : Hid ((x * y).toNat = n) := by unfold Hid; rw [hn]; rfl
          clear hn hck
          have HNi : Hid (x * y = (n : Int)) := by have := HNn.out; have := Int.mul_nonneg hx0 hy0; unfold Hid; omega
          clear h3
          go_enter Tryd.func49, Tryd.ntmps49
          go_wp2_with (first
            | (go_at_call 56; (with_reducible refine (HMn.out _ HK.out.rln).mono ?_); rintro e w1 ⟨rfl, hb⟩; have HK2 := Lib.hid (HK.out.next hb); clear HK x0 x1 x2 x3 x4; have HK := HK2; clear HK2; have x0 := HK.out.k.box.c0; have x1 := HK.out.k.box.c1; have x2 := HK.out.k.box.c2; have x3 := HK.out.k.box.c3; have x4 := HK.out.k.box.c4; clear hb)
            | (go_at_call 57; (with_reducible refine (HMx.out _ HK.out.rln).mono ?_); rintro e w1 ⟨rfl, hb⟩; have HK2 := Lib.hid (HK.out.next hb); clear HK x0 x1 x2 x3 x4; have HK := HK2; clear HK2; have x0 := HK.out.k.box.c0; have x1 := HK.out.k.box.c1; have x2 := HK.out.k.box.c2; have x3 := HK.out.k.box.c3; have x4 := HK.out.k.box.c4; clear hb))
          obtain ⟨bq, oq, heq, hnum⟩ := HK.out.num (by simp)
          cases heq
          have HNum := Lib.hid hnum
          clear hnum
          have HL0 : Hid (KgL w A (.slice p A.z.length cap) (.slice (some ⟨bu, ou, none⟩) 2 cu) [x, y] w1.heap.size 0 0 (w1.alloc (.cells #[.int .i64 0, .int .i64 0] 22))) := ⟨HK.out.next (bel1 w1 _), R2.new w1 0 0⟩
          have hgs : w.heap.size + 2 ≤ w1.heap.size := HK.out.k.sz
          have hq0 := HNum.out _ HL0.out.m.rl 0 (by simp)
          rw [Nat.add_zero, List.getElem_cons_zero] at hq0
          clear HK x0 x1 x2 x3 x4
          generalize w1.alloc (.cells #[.int .i64 0, .int .i64 0] 22) = W1 at HL0 hq0 ⊢
          have l0 := HL0.out.bx.c0; have l1 := HL0.out.bx.c1; have lf := HL0.out.bx.fr 0
          have HL1 := Lib.hid (HL0.out.put0 HW3.out hgs x)
          have hw1 : IntKind.i64.wrap 1 = 1 := by rw [IntKind.wrap_i64]; omega
          have hq1 := HNum.out _ HL1.out.m.rl 1 (by simp)
          rw [List.getElem_cons_succ, List.getElem_cons_zero] at hq1
          have lf1 := HL1.out.bx.fr 1; have l2 := HL1.out.bx.c1
          have HL2 := Lib.hid (HL1.out.put1 HW3.out hgs y)
          have hzb : ((A.z.length : Int) == 0) = true := by simpa using HH4.out.1
          have hnp : (0 : Int) < (n : Int) := by have := HNi.out; have := HH4.out.2; omega
          have v0 := HL2.out.bx.c0; have v1 := HL2.out.bx.c1; have xb0 := HL2.out.m.k.box.c0; have xb1 := HL2.out.m.k.box.c1; have xb2 := HL2.out.m.k.box.c2; have xb3 := HL2.out.m.k.box.c3; have xb4 := HL2.out.m.k.box.c4
          refine wp_loop_rounds 8 ?_
          rw [rounds_succ]
          go_wp2
          rw [rounds_succ]
          go_wp2
          rw [rounds_succ]
          go_wp2_with (go_at_call 45; (with_reducible refine (HBl.out _ HL2.out.m.k.lay).mono ?_); rintro e w2 ⟨g, rfl, hg1, hg2, hrow, hb⟩; have hgg : w.heap.size + 1 < g := (by have := HL2.out.m.k.sz; omega); have HM2 := Lib.hid ((HL2.out.m.next hb).next (bel1 w2 (.cells #[.int .i64 A.k, .int .i64 2, .int .i64 x, .int .i64 y, .slice (some ⟨g, 0, none⟩) n n] 25))); have HR2 := Lib.hid (hrow.alloc (.cells #[.int .i64 A.k, .int .i64 2, .int .i64 x, .int .i64 y, .slice (some ⟨g, 0, none⟩) n n] 25)); have HB2 := Lib.hid (R5.new w2 A.k 2 x y (.slice (some ⟨g, 0, none⟩) n n)); clear hb hrow hg1 v0 v1 xb0 xb1 xb2 xb3 xb4 l0 l1 lf hq0 hq1 lf1 l2; have b0 := HB2.out.c0; have b1 := HB2.out.c1; have b2 := HB2.out.c2; have b3 := HB2.out.c3; have b4 := HB2.out.c4; have x4 := HM2.out.k.box.c4; have y0 := HM2.out.k.res.c0; have y1 := HM2.out.k.res.c1; have y2 := HM2.out.k.res.c2; have y3 := HM2.out.k.res.c3; have y4 := HM2.out.k.res.c4; have f0 := HM2.out.k.res.fr 0; have f1 := HM2.out.k.res.fr 1; have f2 := HM2.out.k.res.fr 2; have f3 := HM2.out.k.res.fr 3; have f4 := HM2.out.k.res.fr 4)
          have HS := Lib.hid (HM2.out.k.res.set 0 0 0 0 (.slice none 0 0)); have z0 := HS.out.c0; have z1 := HS.out.c1; have z2 := HS.out.c2; have z3 := HS.out.c3; have z4 := HS.out.c4
          exact bodyPost_ret (v := .tuple #[A5 0 0 0 0 (.slice none 0 0), .int .i64 13]) (by simp [results, Tryd.results49, go_sem, z0, z1, z2, z3, z4]) rfl (retE_no _ (st5_below _ _ _ _ _ (by omega) HM2.out.k.bel))
        · rw [if_neg h4, orNo_yes rfl]
          have HH4 := Lib.hid h4
          clear h4
          by_cases h5 : A.z.length = 0
          · have HH5 := Lib.hid h5
            clear h5
            obtain ⟨n, hn⟩ : ∃ n : Nat, x * y = n := ⟨(x * y).toNat, by have := Int.mul_nonneg hx0 hy0; omega⟩
            have hn4 : n ≤ 400 := by omega
            have hck : ck ⟨A.k, 2, x, y, List.replicate n 0⟩ = 0 := good_ck ⟨hA.kind, Sh.s2 x y hx0 hx4 hy0 hy4 (by omega), by simp [cn, hn], fun _ => zeros_all _⟩
            have HBl := Lib.hid (fun W hw => blank_ok hck W hw (by simp; exact hn) (by omega))
            have HNn : Hid ((x * y).toNat = n) := by unfold Hid; rw [hn]; rfl
            clear hn hck
            have HNi : Hid (x * y = (n : Int)) := by have := HNn.out; have := Int.mul_nonneg hx0 hy0; unfold Hid; omega
            clear h3
            go_enter Tryd.func49, Tryd.ntmps49
            go_wp2_with (first
              | (go_at_call 56; (with_reducible refine (HMn.out _ HK.out.rln).mono ?_); rintro e w1 ⟨rfl, hb⟩; have HK2 := Lib.hid (HK.out.next hb); clear HK x0 x1 x2 x3 x4; have HK := HK2; clear HK2; have x0 := HK.out.k.box.c0; have x1 := HK.out.k.box.c1; have x2 := HK.out.k.box.c2; have x3 := HK.out.k.box.c3; have x4 := HK.out.k.box.c4; clear hb)
              | (go_at_call 57; (with_reducible refine (HMx.out _ HK.out.rln).mono ?_); rintro e w1 ⟨rfl, hb⟩; have HK2 := Lib.hid (HK.out.next hb); clear HK x0 x1 x2 x3 x4; have HK := HK2; clear HK2; have x0 := HK.out.k.box.c0; have x1 := HK.out.k.box.c1; have x2 := HK.out.k.box.c2; have x3 := HK.out.k.box.c3; have x4 := HK.out.k.box.c4; clear hb))
            obtain ⟨bq, oq, heq, hnum⟩ := HK.out.num (by simp)
            cases heq
            have HNum := Lib.hid hnum
            clear hnum
            have HL0 : Hid (KgL w A (.slice p A.z.length cap) (.slice (some ⟨bu, ou, none⟩) 2 cu) [x, y] w1.heap.size 0 0 (w1.alloc (.cells #[.int .i64 0, .int .i64 0] 22))) := ⟨HK.out.next (bel1 w1 _), R2.new w1 0 0⟩
            have hgs : w.heap.size + 2 ≤ w1.heap.size := HK.out.k.sz
            have hq0 := HNum.out _ HL0.out.m.rl 0 (by simp)
            rw [Nat.add_zero, List.getElem_cons_zero] at hq0
            clear HK x0 x1 x2 x3 x4
            generalize w1.alloc (.cells #[.int .i64 0, .int .i64 0] 22) = W1 at HL0 hq0 ⊢
            have l0 := HL0.out.bx.c0; have l1 := HL0.out.bx.c1; have lf := HL0.out.bx.fr 0
            have HL1 := Lib.hid (HL0.out.put0 HW3.out hgs x)
            have hw1 : IntKind.i64.wrap 1 = 1 := by rw [IntKind.wrap_i64]; omega
            have hq1 := HNum.out _ HL1.out.m.rl 1 (by simp)
            rw [List.getElem_cons_succ, List.getElem_cons_zero] at hq1
            have lf1 := HL1.out.bx.fr 1; have l2 := HL1.out.bx.c1
            have HL2 := Lib.hid (HL1.out.put1 HW3.out hgs y)
            have hzb : ((A.z.length : Int) == 0) = true := by simpa using HH5.out
            have hnp : ¬ (0 : Int) < (n : Int) := fun h => HH4.out ⟨HH5.out, by rw [HNi.out]; exact h⟩
            have v0 := HL2.out.bx.c0; have v1 := HL2.out.bx.c1; have xb0 := HL2.out.m.k.box.c0; have xb1 := HL2.out.m.k.box.c1; have xb2 := HL2.out.m.k.box.c2; have xb3 := HL2.out.m.k.box.c3; have xb4 := HL2.out.m.k.box.c4
            refine wp_loop_rounds 8 ?_
            rw [rounds_succ]
            go_wp2
            rw [rounds_succ]
            go_wp2
            rw [rounds_succ]
            go_wp2_with (go_at_call 45; (with_reducible refine (HBl.out _ HL2.out.m.k.lay).mono ?_); rintro e w2 ⟨g, rfl, hg1, hg2, hrow, hb⟩; have hgg : w.heap.size + 1 < g := (by have := HL2.out.m.k.sz; omega); have HM2 := Lib.hid ((HL2.out.m.next hb).next (bel1 w2 (.cells #[.int .i64 A.k, .int .i64 2, .int .i64 x, .int .i64 y, .slice (some ⟨g, 0, none⟩) n n] 25))); have HR2 := Lib.hid (hrow.alloc (.cells #[.int .i64 A.k, .int .i64 2, .int .i64 x, .int .i64 y, .slice (some ⟨g, 0, none⟩) n n] 25)); have HB2 := Lib.hid (R5.new w2 A.k 2 x y (.slice (some ⟨g, 0, none⟩) n n)); clear hb hrow hg1 v0 v1 xb0 xb1 xb2 xb3 xb4 l0 l1 lf hq0 hq1 lf1 l2; have b0 := HB2.out.c0; have b1 := HB2.out.c1; have b2 := HB2.out.c2; have b3 := HB2.out.c3; have b4 := HB2.out.c4; have x4 := HM2.out.k.box.c4)
            clear hzb
            have HG0 : Hid (Kg w A (.slice p A.z.length cap) (.slice (some ⟨bu, ou, none⟩) 2 cu) [x, y] 2 x y n g w2.heap.size 0 (some ⟨g, 0, none⟩) (w2.alloc (.cells #[.int .i64 A.k, .int .i64 2, .int .i64 x, .int .i64 y, .slice (some ⟨g, 0, none⟩) n n] 25))) := ⟨HM2.out, HB2.out, HR2.out.congr fun i _ => by rw [agF_zero], fun _ => ⟨rfl, Nat.zero_mod _⟩⟩
            have hgb : w2.heap.size ≠ g := by omega
            clear HM2 HB2 HR2 b0 b1 b2 b3 b4 x4 HL2
            generalize w2.alloc (.cells #[.int .i64 A.k, .int .i64 2, .int .i64 x, .int .i64 y, .slice (some ⟨g, 0, none⟩) n n] 25) = W5 at HG0 ⊢
            go_loopg [13] n (fun gk q wr => ∃ (o : Nat) (qa : Option Addr), o + gk = n ∧ q = .slice qa gk gk ∧ Kg w A (.slice p A.z.length cap) (.slice (some ⟨bu, ou, none⟩) 2 cu) [x, y] 2 x y n g w2.heap.size o qa wr)
            case atStart => exact ⟨0, some ⟨g, 0, none⟩, by omega, rfl, HG0.out⟩
            case round =>
              obtain ⟨o, qa, hog, rfl, hk⟩ := hrel
              have HG := Lib.hid hk
              clear hk HG0
              by_cases h0 : gk = 0
              · subst h0
                have hz0 : ¬ ((0 : Int) < ((0 : Nat) : Int)) := by omega
                have HF : Hid (rowZ wr g n (fun i => (agn n A.z).getD i 0)) := HG.out.row.congr fun i hi => by unfold agF; rw [if_pos (by omega), agn_getD hi]
                have b0 := HG.out.bx.c0; have b1 := HG.out.bx.c1; have b2 := HG.out.bx.c2; have b3 := HG.out.bx.c3; have b4 := HG.out.bx.c4
                have y0 := HG.out.m.k.res.c0; have y1 := HG.out.m.k.res.c1; have y2 := HG.out.m.k.res.c2; have y3 := HG.out.m.k.res.c3; have y4 := HG.out.m.k.res.c4; have f0 := HG.out.m.k.res.fr 0; have f1 := HG.out.m.k.res.fr 1; have f2 := HG.out.m.k.res.fr 2; have f3 := HG.out.m.k.res.fr 3; have f4 := HG.out.m.k.res.fr 4; have HS := Lib.hid (HG.out.m.k.res.set A.k 2 x y (.slice (some ⟨g, 0, none⟩) n n)); have z0 := HS.out.c0; have z1 := HS.out.c1; have z2 := HS.out.c2; have z3 := HS.out.c3; have z4 := HS.out.c4
                go_wp2
                refine bodyPost_ret (v := .tuple #[A5 A.k 2 x y (.slice (some ⟨g, 0, none⟩) n n), .int .i64 0]) (by simp [results, Tryd.results49, go_sem, z0, z1, z2, z3, z4]) rfl ?_
                exact ⟨_, rfl, zf_new (by rw [HNn.out]; exact agn_len _ _) (World.rowIs.of_block (by rw [HNn.out]; exact HF.out.zf) (st5_other _ _ _ _ _ (by omega))) (by omega) (by omega), st5_below _ _ _ _ _ (by omega) HG.out.m.k.bel⟩
              · exfalso
                omega
          · have HH5 := Lib.hid h5
            clear h5
            obtain ⟨n, hn⟩ : ∃ n : Nat, x * y = n := ⟨(x * y).toNat, by have := Int.mul_nonneg hx0 hy0; omega⟩
            have hn4 : n ≤ 400 := by omega
            have hck : ck ⟨A.k, 2, x, y, List.replicate n 0⟩ = 0 := good_ck ⟨hA.kind, Sh.s2 x y hx0 hx4 hy0 hy4 (by omega), by simp [cn, hn], fun _ => zeros_all _⟩
            have HBl := Lib.hid (fun W hw => blank_ok hck W hw (by simp; exact hn) (by omega))
            have HNn : Hid ((x * y).toNat = n) := by unfold Hid; rw [hn]; rfl
            clear hn hck
            have HNi : Hid (x * y = (n : Int)) := by have := HNn.out; have := Int.mul_nonneg hx0 hy0; unfold Hid; omega
            clear h3
            go_enter Tryd.func49, Tryd.ntmps49
            go_wp2_with (first
              | (go_at_call 56; (with_reducible refine (HMn.out _ HK.out.rln).mono ?_); rintro e w1 ⟨rfl, hb⟩; have HK2 := Lib.hid (HK.out.next hb); clear HK x0 x1 x2 x3 x4; have HK := HK2; clear HK2; have x0 := HK.out.k.box.c0; have x1 := HK.out.k.box.c1; have x2 := HK.out.k.box.c2; have x3 := HK.out.k.box.c3; have x4 := HK.out.k.box.c4; clear hb)
              | (go_at_call 57; (with_reducible refine (HMx.out _ HK.out.rln).mono ?_); rintro e w1 ⟨rfl, hb⟩; have HK2 := Lib.hid (HK.out.next hb); clear HK x0 x1 x2 x3 x4; have HK := HK2; clear HK2; have x0 := HK.out.k.box.c0; have x1 := HK.out.k.box.c1; have x2 := HK.out.k.box.c2; have x3 := HK.out.k.box.c3; have x4 := HK.out.k.box.c4; clear hb))
            obtain ⟨bq, oq, heq, hnum⟩ := HK.out.num (by simp)
            cases heq
            have HNum := Lib.hid hnum
            clear hnum
            have HL0 : Hid (KgL w A (.slice p A.z.length cap) (.slice (some ⟨bu, ou, none⟩) 2 cu) [x, y] w1.heap.size 0 0 (w1.alloc (.cells #[.int .i64 0, .int .i64 0] 22))) := ⟨HK.out.next (bel1 w1 _), R2.new w1 0 0⟩
            have hgs : w.heap.size + 2 ≤ w1.heap.size := HK.out.k.sz
            have hq0 := HNum.out _ HL0.out.m.rl 0 (by simp)
            rw [Nat.add_zero, List.getElem_cons_zero] at hq0
            clear HK x0 x1 x2 x3 x4
            generalize w1.alloc (.cells #[.int .i64 0, .int .i64 0] 22) = W1 at HL0 hq0 ⊢
            have l0 := HL0.out.bx.c0; have l1 := HL0.out.bx.c1; have lf := HL0.out.bx.fr 0
            have HL1 := Lib.hid (HL0.out.put0 HW3.out hgs x)
            have hw1 : IntKind.i64.wrap 1 = 1 := by rw [IntKind.wrap_i64]; omega
            have hq1 := HNum.out _ HL1.out.m.rl 1 (by simp)
            rw [List.getElem_cons_succ, List.getElem_cons_zero] at hq1
            have lf1 := HL1.out.bx.fr 1; have l2 := HL1.out.bx.c1
            have HL2 := Lib.hid (HL1.out.put1 HW3.out hgs y)
            have hzb : ((A.z.length : Int) == 0) = false := by simpa using HH5.out
            have hz : 0 < A.z.length := by have := HH5.out; omega
            have v0 := HL2.out.bx.c0; have v1 := HL2.out.bx.c1; have xb0 := HL2.out.m.k.box.c0; have xb1 := HL2.out.m.k.box.c1; have xb2 := HL2.out.m.k.box.c2; have xb3 := HL2.out.m.k.box.c3; have xb4 := HL2.out.m.k.box.c4
            refine wp_loop_rounds 8 ?_
            rw [rounds_succ]
            go_wp2
            rw [rounds_succ]
            go_wp2
            rw [rounds_succ]
            go_wp2_with (go_at_call 45; (with_reducible refine (HBl.out _ HL2.out.m.k.lay).mono ?_); rintro e w2 ⟨g, rfl, hg1, hg2, hrow, hb⟩; have hgg : w.heap.size + 1 < g := (by have := HL2.out.m.k.sz; omega); have HM2 := Lib.hid ((HL2.out.m.next hb).next (bel1 w2 (.cells #[.int .i64 A.k, .int .i64 2, .int .i64 x, .int .i64 y, .slice (some ⟨g, 0, none⟩) n n] 25))); have HR2 := Lib.hid (hrow.alloc (.cells #[.int .i64 A.k, .int .i64 2, .int .i64 x, .int .i64 y, .slice (some ⟨g, 0, none⟩) n n] 25)); have HB2 := Lib.hid (R5.new w2 A.k 2 x y (.slice (some ⟨g, 0, none⟩) n n)); clear hb hrow hg1 v0 v1 xb0 xb1 xb2 xb3 xb4 l0 l1 lf hq0 hq1 lf1 l2; have b0 := HB2.out.c0; have b1 := HB2.out.c1; have b2 := HB2.out.c2; have b3 := HB2.out.c3; have b4 := HB2.out.c4; have x4 := HM2.out.k.box.c4)
            have HG0 : Hid (Kg w A (.slice p A.z.length cap) (.slice (some ⟨bu, ou, none⟩) 2 cu) [x, y] 2 x y n g w2.heap.size 0 (some ⟨g, 0, none⟩) (w2.alloc (.cells #[.int .i64 A.k, .int .i64 2, .int .i64 x, .int .i64 y, .slice (some ⟨g, 0, none⟩) n n] 25))) := ⟨HM2.out, HB2.out, HR2.out.congr fun i _ => by rw [agF_zero], fun _ => ⟨rfl, Nat.zero_mod _⟩⟩
            have hgb : w2.heap.size ≠ g := by omega
            clear HM2 HB2 HR2 b0 b1 b2 b3 b4 x4 HL2
            generalize w2.alloc (.cells #[.int .i64 A.k, .int .i64 2, .int .i64 x, .int .i64 y, .slice (some ⟨g, 0, none⟩) n n] 25) = W5 at HG0 ⊢
            go_loopg [13] n (fun gk q wr => ∃ (o : Nat) (qa : Option Addr), o + gk = n ∧ q = .slice qa gk gk ∧ Kg w A (.slice p A.z.length cap) (.slice (some ⟨bu, ou, none⟩) 2 cu) [x, y] 2 x y n g w2.heap.size o qa wr)
            case atStart => exact ⟨0, some ⟨g, 0, none⟩, by omega, rfl, HG0.out⟩
            case round =>
              obtain ⟨o, qa, hog, rfl, hk⟩ := hrel
              have HG := Lib.hid hk
              clear hk HG0
              by_cases h0 : gk = 0
              · subst h0
                have hz0 : ¬ ((0 : Int) < ((0 : Nat) : Int)) := by omega
                have HF : Hid (rowZ wr g n (fun i => (agn n A.z).getD i 0)) := HG.out.row.congr fun i hi => by unfold agF; rw [if_pos (by omega), agn_getD hi]
                have b0 := HG.out.bx.c0; have b1 := HG.out.bx.c1; have b2 := HG.out.bx.c2; have b3 := HG.out.bx.c3; have b4 := HG.out.bx.c4
                have y0 := HG.out.m.k.res.c0; have y1 := HG.out.m.k.res.c1; have y2 := HG.out.m.k.res.c2; have y3 := HG.out.m.k.res.c3; have y4 := HG.out.m.k.res.c4; have f0 := HG.out.m.k.res.fr 0; have f1 := HG.out.m.k.res.fr 1; have f2 := HG.out.m.k.res.fr 2; have f3 := HG.out.m.k.res.fr 3; have f4 := HG.out.m.k.res.fr 4; have HS := Lib.hid (HG.out.m.k.res.set A.k 2 x y (.slice (some ⟨g, 0, none⟩) n n)); have z0 := HS.out.c0; have z1 := HS.out.c1; have z2 := HS.out.c2; have z3 := HS.out.c3; have z4 := HS.out.c4
                go_wp2
                refine bodyPost_ret (v := .tuple #[A5 A.k 2 x y (.slice (some ⟨g, 0, none⟩) n n), .int .i64 0]) (by simp [results, Tryd.results49, go_sem, z0, z1, z2, z3, z4]) rfl ?_
                exact ⟨_, rfl, zf_new (by rw [HNn.out]; exact agn_len _ _) (World.rowIs.of_block (by rw [HNn.out]; exact HF.out.zf) (st5_other _ _ _ _ _ (by omega))) (by omega) (by omega), st5_below _ _ _ _ _ (by omega) HG.out.m.k.bel⟩
              · have hg0 : (0 : Int) < (gk : Int) := by omega
                have hon : o < n := by omega
                obtain ⟨rfl, hmod⟩ := HG.out.pos hon
                obtain ⟨c, hc⟩ : ∃ c, c = min A.z.length gk := ⟨_, rfl⟩
                have hc0 : 0 < c := by omega
                obtain ⟨w6, hcp, hrow, hbut⟩ := copy_run HG.out.row o gk gk HG.out.m.k.rd c hc (by omega)
                have HC := Lib.hid hc
                have HRow := Lib.hid hrow
                have HBut := Lib.hid hbut
                have hcg : c ≤ gk := by omega
                have x4 := HG.out.m.k.box.c4
                clear hrow hbut hc hmod h0
                by_cases hcn : c = gk
                · have HNx : Hid (Kg w A (.slice p A.z.length cap) (.slice (some ⟨bu, ou, none⟩) 2 cu) [x, y] 2 x y n g w2.heap.size (o + c) (some ⟨g, o, none⟩) w6) := HG.out.next hgg hgb hon (by rw [show n - o = gk by omega]; exact HC.out) (fun h => absurd h (by omega)) HBut.out (HG.out.m.k.lay.below HW3.out (HBut.out.below (by omega))) HRow.out
                  subst hcn
                  go_wp2
                  go_roundg 0
                  case measure => omega
                  case rel => exact ⟨o + c, _, by omega, rfl, HNx.out⟩
                · have HNx : Hid (Kg w A (.slice p A.z.length cap) (.slice (some ⟨bu, ou, none⟩) 2 cu) [x, y] 2 x y n g w2.heap.size (o + c) (some ⟨g, o + c, none⟩) w6) := HG.out.next hgg hgb hon (by rw [show n - o = gk by omega]; exact HC.out) (fun _ => rfl) HBut.out (HG.out.m.k.lay.below HW3.out (HBut.out.below (by omega))) HRow.out
                  have hcl : c < gk := by omega
                  have hcz : 0 < gk - c := by omega
                  have hci : (c : Int) ≤ (gk : Int) := by omega
                  clear hcn
                  go_wp2
                  go_roundg (gk - c)
                  case measure => omega
                  case rel => exact ⟨o + c, _, by omega, rfl, HNx.out⟩
end Go.Proofs.YtbeoigmaieiigaaDoor
