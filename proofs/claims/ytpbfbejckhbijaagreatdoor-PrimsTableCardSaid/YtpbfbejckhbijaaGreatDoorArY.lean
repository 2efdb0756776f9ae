/- Several texts as one (a claim has at most 60 files): ArG, ArF, ArH, ArI, ArJ, ArM, ArN, ArO, ArP, ArS4. -/
import Derived.Test.YtpbfbejckhbijaaGreatDoorArE
import Derived.Deep.RegionHeld3
import Derived.Lib.AppendZerosOnto
import Derived.Lib.SliceRun
import Derived.Lib.Walk
import Derived.Deep.OwnRows
namespace Go.Proofs.YtpbfbejckhbijaaGreatDoor
open Go.RowKit

theorem one_new (W : World) (n : Int) : RdN W.heap.size (W.alloc (.cells #[.int .i64 n] 2)) (.slice (some ⟨W.heap.size, 0, none⟩) 1 1) [n] := by
  refine ⟨_, 1, rfl, ⟨Nat.le_refl _, by omega, fun e => by cases e⟩, fun _ => ⟨W.heap.size, 0, rfl, ⟨Nat.le_refl _, by simp⟩, fun j hj => ?_⟩⟩
  simp at hj
  subst hj
  simp [World.cell?_alloc_new]

theorem one_at {W : World} {n : Int} {g B : Nat} (hg : W.heap.size = g) (hB : B ≤ g) : RdN B (W.alloc (.cells #[.int .i64 n] 2)) (.slice (some ⟨g, 0, none⟩) 1 1) [n] := by
  subst hg; exact (one_new W n).mono hB

def likeB (A B : Ar) : Bool := decide (A.k = B.k ∧ A.r = B.r ∧ A.a = B.a ∧ A.b = B.b)
def smB (A B : Ar) : Bool := likeB A B && decide (A.z = B.z)
theorem smB_self (A : Ar) : smB A A = true := by simp [smB, likeB]
theorem smB_eq {A B : Ar} : smB A B = true ↔ A = B := by
  obtain ⟨k, r, a, b, z⟩ := A
  obtain ⟨k', r', a', b', z'⟩ := B
  simp [smB, likeB, and_assoc]
/-- What a walk over two arrays keeps. -/
structure KD (w : World) (A : Ar) (v : Value) (B : Ar) (u : Value) (w' : World) : Prop where
  bel : Below w.heap.size w w'
  b0 : R5 w' w.heap.size A.k A.r A.a A.b v
  b1 : R5 w' (w.heap.size + 1) B.k B.r B.a B.b u
  rd0 : RdI w'.heap.size w' v A.z
  rd1 : RdI w'.heap.size w' u B.z
theorem KD.next {w w' w'' : World} {A B : Ar} {v u : Value} (h : KD w A v B u w') (hb : Below w'.heap.size w' w'') : KD w A v B u w'' :=
  ⟨h.bel.trans (hb.mono h.bel.size), h.b0.next hb, h.b1.next hb, h.rd0.next hb, h.rd1.next hb⟩
theorem KD.new {w : World} {A B : Ar} {v u : Value} (hv : RdI w.heap.size w v A.z) (hu : RdI w.heap.size w u B.z) : KD w A v B u ((w.alloc (.cells #[.int .i64 A.k, .int .i64 A.r, .int .i64 A.a, .int .i64 A.b, v] 43)).alloc (.cells #[.int .i64 B.k, .int .i64 B.r, .int .i64 B.a, .int .i64 B.b, u] 43)) := by
  have hb : Below w.heap.size w ((w.alloc (.cells #[.int .i64 A.k, .int .i64 A.r, .int .i64 A.a, .int .i64 A.b, v] 43)).alloc (.cells #[.int .i64 B.k, .int .i64 B.r, .int .i64 B.a, .int .i64 B.b, u] 43)) := (bel1 _ _).trans ((bel1 _ _).mono (by simp))
  refine ⟨hb, (R5.new w _ _ _ _ _).alloc _, ?_, hv.next hb, hu.next hb⟩
  have : (w.alloc (.cells #[.int .i64 A.k, .int .i64 A.r, .int .i64 A.a, .int .i64 A.b, v] 43)).heap.size = w.heap.size + 1 := by simp
  rw [← this]; exact R5.new _ _ _ _ _ _
set_option maxHeartbeats 2000000 in
theorem rlike_any (A B : Ar) (v u : Value) (w : World) (hv : RdI w.heap.size w v A.z) (hu : RdI w.heap.size w u B.z) :
    Calls Tryz.prog 47 #[A5 A.k A.r A.a A.b v, A5 B.k B.r B.a B.b u] w fun e w' => e = .returned (.bool (likeB A B)) ∧ Below w.heap.size w w' := by
  have HK := Lib.hid (KD.new (A := A) (B := B) hv hu)
  obtain ⟨k, r, a, b, z⟩ := A
  obtain ⟨k', r', a', b', z'⟩ := B
  obtain ⟨p, cap, rfl, hcap, hcap2, hcell⟩ := hv
  obtain ⟨q, cap', rfl, hcap', hcap2', hcell'⟩ := hu
  simp only at HK ⊢
  have HQ := fun W => eq2 a b a' b' W
  clear hcell hcell'
  have x0 := HK.out.b0.c0; have x1 := HK.out.b0.c1; have x2 := HK.out.b0.c2; have x3 := HK.out.b0.c3
  have y0 := HK.out.b1.c0; have y1 := HK.out.b1.c1; have y2 := HK.out.b1.c2; have y3 := HK.out.b1.c3
  by_cases h1 : k = k'
  · subst h1
    by_cases h2 : r = r'
    · subst h2
      have HL : Hid (likeB ⟨k, r, a, b, z⟩ ⟨k, r, a', b', z'⟩ = decide (a = a' ∧ b = b')) := by simp [Hid, likeB]
      rw [HL.out]
      go_enter Tryz.func47, Tryz.ntmps47
      go_wp2
      go_ret
      exact ⟨rfl, HK.out.bel⟩
    · have HL : Hid (likeB ⟨k, r, a, b, z⟩ ⟨k, r', a', b', z'⟩ = false) := by simp [Hid, likeB, h2]
      rw [HL.out]
      have e2 : (r == r') = false := by simpa using h2
      go_enter Tryz.func47, Tryz.ntmps47
      go_wp2
      go_ret
      exact ⟨rfl, HK.out.bel⟩
  · have HL : Hid (likeB ⟨k, r, a, b, z⟩ ⟨k', r', a', b', z'⟩ = false) := by simp [Hid, likeB, h1]
    rw [HL.out]
    have e1 : (k == k') = false := by simpa using h1
    go_enter Tryz.func47, Tryz.ntmps47
    go_wp2
    go_ret
    exact ⟨rfl, HK.out.bel⟩
set_option maxRecDepth 100000 in
set_option maxHeartbeats 4000000 in
theorem rsame_any (A B : Ar) (v u : Value) (w : World) (hv : RdI w.heap.size w v A.z) (hu : RdI w.heap.size w u B.z) (hl : A.z.length ≤ 1000000) :
    Calls Tryz.prog 29 #[A5 A.k A.r A.a A.b v, A5 B.k B.r B.a B.b u] w fun e w' => e = .returned (.bool (smB A B)) ∧ Below w.heap.size w w' := by
  have HK := Lib.hid (KD.new (A := A) (B := B) hv hu)
  have HL := Lib.hid (fun W h1 h2 => rlike_any A B v u W h1 h2)
  have HE : Hid (smB A B = (likeB A B && decide (A.z = B.z))) := rfl
  rw [HE.out]
  obtain ⟨t, ht⟩ : ∃ t, likeB A B = t := ⟨_, rfl⟩
  rw [ht] at HL ⊢
  clear ht HE
  obtain ⟨k, r, a, b, z⟩ := A
  obtain ⟨k', r', a', b', z'⟩ := B
  obtain ⟨p, cap, rfl, hcap, hcap2, hcell⟩ := hv
  obtain ⟨q, cap', rfl, hcap', hcap2', hcell'⟩ := hu
  simp only at HK HL hcap hcap' hl ⊢
  clear hcell hcell'
  have x0 := HK.out.b0.c0; have x1 := HK.out.b0.c1; have x2 := HK.out.b0.c2; have x3 := HK.out.b0.c3; have x4 := HK.out.b0.c4
  have y0 := HK.out.b1.c0; have y1 := HK.out.b1.c1; have y2 := HK.out.b1.c2; have y3 := HK.out.b1.c3; have y4 := HK.out.b1.c4
  cases t
  · rw [Bool.false_and]
    go_enter Tryz.func29, Tryz.ntmps29
    go_wp2_with (go_at_call 47; refine (HL.out _ HK.out.rd0 HK.out.rd1).mono ?_; rintro e w' ⟨rfl, hb⟩; have HK2 := Lib.hid (HK.out.next hb); clear HK hb x0 x1 x2 x3 x4 y0 y1 y2 y3 y4; have HK := HK2; clear HK2; have x4 := HK.out.b0.c4; have y4 := HK.out.b1.c4)
    go_ret
    exact ⟨rfl, HK.out.bel⟩
  · rw [Bool.true_and]
    by_cases hlen : z.length = z'.length
    · have hb1 : ((z.length : Int) != (z'.length : Int)) = false := by simp [hlen]
      have Hlen := Lib.hid hlen; clear hlen
      go_enter Tryz.func29, Tryz.ntmps29
      go_wp2_with (go_at_call 47; refine (HL.out _ HK.out.rd0 HK.out.rd1).mono ?_; rintro e w' ⟨rfl, hb⟩; have HK2 := Lib.hid (HK.out.next hb); clear HK hb x0 x1 x2 x3 x4 y0 y1 y2 y3 y4; have HK := HK2; clear HK2; have x4 := HK.out.b0.c4; have y4 := HK.out.b1.c4)
      clear x4 y4
      go_loopw [5] (fun i wr => ∃ j : Nat, j ≤ z.length ∧ i = .int .i64 j ∧ KD w ⟨k, r, a, b, z⟩ (.slice p z.length cap) ⟨k', r', a', b', z'⟩ (.slice q z'.length cap') wr ∧ Hid (z.take j = z'.take j)) (fun i _ => z.length - (intOf i).toNat)
      case atStart => exact ⟨0, by omega, rfl, HK.out, rfl⟩
      case round =>
        obtain ⟨j, hj, rfl, hK, hq⟩ := hrel
        have HK := Lib.hid hK
        clear hK
        have x4 := HK.out.b0.c4; have y4 := HK.out.b1.c4
        by_cases hlt : j < z.length
        · have hlt2 : j < z'.length := by have := Hlen.out; omega
          obtain ⟨g, off, rfl, hbb, hc⟩ := HK.out.rd0.cells (by intro e; simp only at e; rw [e] at hlt; simp at hlt)
          obtain ⟨g2, off2, rfl, hbb2, hc2⟩ := HK.out.rd1.cells (by intro e; simp only at e; rw [e] at hlt2; simp at hlt2)
          have d1 : wr.cell? ⟨g, off + j, none⟩ = some (.int .i64 z[j]) := hc j hlt
          have e1 : wr.cell? ⟨g2, off2 + j, none⟩ = some (.int .i64 z'[j]) := hc2 j hlt2
          have hi1 : (j : Int) < (z.length : Int) := by omega
          have hi2 : (j : Int) < (z'.length : Int) := by omega
          clear hc hc2
          go_wp2_with fail
          go_quiet (fail)
          go_wp2
          · have h : (z[j] != z'[j]) = true := by assumption
            have hne : z ≠ z' := by
              intro e; subst e; simp at h
            go_ret
            exact ⟨ret_bool (decide_eq_false hne).symm, below_drewN HK.out.bel _⟩
          · have h : (z[j] != z'[j]) = false := by assumption
            have he : z[j] = z'[j] := by simpa using h
            go_roundw
            case rel => exact ⟨j + 1, by omega, by go_num, HK.out.next (drewN_below _ _), by unfold Hid; rw [List.take_succ_eq_append_getElem hlt, List.take_succ_eq_append_getElem hlt2, hq.out, he]⟩
            case measure => simp [intOf]; try omega
        · have HL2 : Hid (z = z') := by
            unfold Hid; have := hq.out
            rw [List.take_of_length_le (by omega), List.take_of_length_le (by have := Hlen.out; omega)] at this; exact this
          clear hq
          go_wp2
          go_ret
          exact ⟨ret_bool (decide_eq_true HL2.out).symm, HK.out.bel⟩
    · have hb1 : ((z.length : Int) != (z'.length : Int)) = true := by rw [bne_iff_ne]; omega
      have HE : Hid (decide (z = z') = false) := by unfold Hid; rw [decide_eq_false (fun e => hlen (by rw [e]))]
      clear hlen
      go_enter Tryz.func29, Tryz.ntmps29
      go_wp2_with (go_at_call 47; refine (HL.out _ HK.out.rd0 HK.out.rd1).mono ?_; rintro e w' ⟨rfl, hb⟩; have HK2 := Lib.hid (HK.out.next hb); clear HK hb x0 x1 x2 x3 x4 y0 y1 y2 y3 y4; have HK := HK2; clear HK2; have x4 := HK.out.b0.c4; have y4 := HK.out.b1.c4)
      go_ret
      exact ⟨ret_bool HE.out.symm, HK.out.bel⟩
end Go.Proofs.YtpbfbejckhbijaaGreatDoor
namespace Go.Proofs.YtpbfbejckhbijaaGreatDoor
open Go.RowKit

/-- append of whatever numbers to what the call has made, as one operation. -/
theorem wp_append_is {w : World} {o : Oper} {a : Act} {K : Act → World → Prop} {Q : Exit → Act → World → Prop} (s x : Operand)
    (ho : o.op = .call { callee := .builtin .append, args := #[s, x], argTypes := #[41, 41] }) (B : Nat) (v : Value) (l : List Int) (hs : a.eval s = v) (hown : Ru.Ins 2 w B v l)
    (u : Value) (m : List Int) (hx : a.eval x = u) (B' : Nat) (hu : RdI B' w u m) (hn : Ru.NilC u) (hl : l.length + m.length ≤ 1000000) (hB : B ≤ w.heap.size)
    (h : ∀ v' w', Ru.Ins 2 w' B v' (l ++ m) → w.grownBy w' v.ownBlock → K (a.put o.dst v') w') : o.wp Tryz.prog a w K Q := by
  obtain ⟨i0, hi, hz0, hz1, hz2⟩ := info_parts info64
  obtain ⟨ua, cap, rfl, hc1, hc2, hcell⟩ := hu
  cases ua with
  | none =>
    have hm : m = [] := by
      rcases m with _ | ⟨c, m⟩
      · rfl
      · obtain ⟨b, off, e, _⟩ := hcell (by simp); cases e
    subst hm
    have hcap := hn _ _ rfl
    subst hcap
    refine Ru.wp_append_none s x 41 ho B 2 i0 1 Tryz.underlying41 hi v l.length _ hs hown hx ?_
    exact h v w (by rw [List.append_nil]; exact hown) (World.grownBy.refl w _)
  | some ad =>
    refine wp_append_own _ s x 41 ho B 2 i0 (.int .i64 0) 1 8 Tryz.underlying41 hi hz0 hz1 hz2 rfl (by decide) v l.length _ hs hown ad m.length cap (m.map fun c => .int .i64 c) hx (by simp) ?_ (by simp [Value.oneCell']) (by unfold maxLen; omega) (by omega) hB ?_
    · intro j z hz
      have hj : j < m.length := by
        rcases Nat.lt_or_ge j m.length with hj | hj
        · exact hj
        · rw [List.getElem?_eq_none (by simp; omega)] at hz; cases hz
      obtain ⟨b, off, e, _, hc⟩ := hcell (by intro e; subst e; simp at hj)
      cases e
      rw [Ru.add_off, hc j hj]
      rw [List.getElem?_map, List.getElem?_eq_getElem hj] at hz
      exact hz
    · intro v' w' hown' hg _
      exact h v' w' (by unfold Ru.Ins; rw [List.length_append, List.map_append]; exact hown') hg
/-- What the call has made is new memory. -/
theorem ins_new {B : Nat} {w : World} {v : Value} {l : List Int} (h : Ru.Ins 2 w B v l) : RdN B w v l := by
  rcases h.2 with ⟨rfl, h0⟩ | ⟨g, cap, cur, rfl, hg, hh, r1, r2, r3, r4⟩
  · have : l = [] := List.length_eq_zero_iff.1 h0
    subst this
    exact RdN.nil _ _
  · have hlt : g < w.heap.size := (Array.getElem?_eq_some_iff.1 hh).1
    refine ⟨_, cap, rfl, ⟨r1, by unfold maxLen at r2; omega, fun e => by cases e⟩, fun _ => ⟨g, 0, rfl, ⟨hg, hlt⟩, fun j hj => ?_⟩⟩
    have := World.ownsRow.cellAt h j (by omega)
    rw [Nat.zero_add, this]
    simp [List.getElem?_eq_getElem hj]
theorem ins_lit (W : World) : Ru.Ins 2 (W.alloc (.cells #[] 2)) W.heap.size (.slice (some ⟨W.heap.size, 0, none⟩) 0 0) [] := World.ownsRow_lit W #[] 0 (Nat.le_refl _) (by decide) rfl
theorem ins_grown {B : Nat} {w w' : World} {v : Value} {l : List Int} (h : Ru.Ins 2 w B v l) (hB : B ≤ w.heap.size) (hg : w.grownBy w' v.ownBlock) : Below B w w' :=
  (Below.refl B w).grown hg hB (fun j e => (World.ownsRow.lt h j e).1)
/-- The store of an array into a block of its own leaves the numbers that the call has made. -/
theorem st_new {W : World} {g B : Nat} {v u : Value} {l : List Int} {k0 r0 a0 b0 : Int} (hi : Ru.Ins 2 W B v l) (hg : R5 W g k0 r0 a0 b0 u) (k r a b : Int) (x : Value) : RdN B (st5 W g k r a b x) v l := by
  rcases hi.2 with ⟨rfl, h0⟩ | ⟨c, cap, cur, rfl, hc, hh, r1, r2, r3, r4⟩
  · have : l = [] := List.length_eq_zero_iff.1 h0
    subst this
    exact RdN.nil _ _
  · have hlt : c < W.heap.size := (Array.getElem?_eq_some_iff.1 hh).1
    have hne : c ≠ g := by
      intro e
      subst e
      unfold R5 at hg
      rw [hh] at hg
      simp at hg
    refine ⟨_, cap, rfl, ⟨r1, by unfold maxLen at r2; omega, fun e => by cases e⟩, fun _ => ⟨c, 0, rfl, ⟨hc, by rw [st5_size]; exact hlt⟩, fun j hj => ?_⟩⟩
    have := World.ownsRow.cellAt hi j (by omega)
    rw [Nat.zero_add, World.cell?, st5_other k r a b x hne]
    rw [World.cell?] at this
    rw [this]
    simp [List.getElem?_eq_getElem hj]
/-- What the region of the reference's Make keeps. -/
structure KC (w : World) (B : Nat) (a b : Int) (v : Value) (z : List Int) (W : World) : Prop where
  bel : Below w.heap.size w W
  box : R2 W w.heap.size a b
  res : R5 W (w.heap.size + 1) 0 0 0 0 (.slice none 0 0)
  rd : RdI B W v z
  lt : w.heap.size + 1 < B
  sz : B ≤ W.heap.size
theorem KC.next {w W W' : World} {B : Nat} {a b : Int} {v : Value} {z : List Int} (h : KC w B a b v z W) (hb : Below B W W') : KC w B a b v z W' :=
  ⟨h.bel.trans (hb.mono (by have := h.lt; omega)), (hb.block _ (by have := h.lt; omega)).trans h.box, (hb.block _ h.lt).trans h.res, h.rd.below hb, h.lt, Nat.le_trans h.sz hb.size⟩
abbrev KC2 (w : World) (B : Nat) (a b : Int) (v : Value) (z : List Int) (W : World) : Prop := KC w B a b v z W ∧ W.cell? ⟨w.heap.size, 0, none⟩ = some (.int .i64 a) ∧ W.cell? ⟨w.heap.size, 1, none⟩ = some (.int .i64 b)
theorem KC.all {w W : World} {B : Nat} {a b : Int} {v : Value} {z : List Int} (h : KC w B a b v z W) : KC2 w B a b v z W := ⟨h, h.box.c0, h.box.c1⟩
theorem KC.up {w W : World} {B : Nat} {a b : Int} {v : Value} {z : List Int} (h : KC w B a b v z W) (o : Obj) : KC2 w B a b v z (W.alloc o) := (h.next ((Below.refl _ _).alloc h.sz o)).all
theorem KC.st {w W : World} {B g : Nat} {a b : Int} {v : Value} {z : List Int} (h : KC w B a b v z W) (hg : B ≤ g) (k r x y : Int) (u : Value) : KC2 w B a b v z (st5 W g k r x y u) := (h.next (st5_below k r x y u hg (Below.refl _ _))).all
theorem KC.of {w W : World} {a b : Int} {v : Value} {z : List Int} (h : KB w a b v z W) : KC w W.heap.size a b v z W := ⟨h.bel, h.box, h.res, h.rd, h.res.lt, Nat.le_refl _⟩
theorem KC.drew {w W : World} {B : Nat} {a b : Int} {v : Value} {z : List Int} (h : KC w B a b v z W) : KC w B a b v z W.drew := h.next (Below.refl _ _).drew

end Go.Proofs.YtpbfbejckhbijaaGreatDoor
namespace Go.Proofs.YtpbfbejckhbijaaGreatDoor
open Go.RowKit

/-- A vector of a kind. -/
def vcE (l : List Int) : Int := if 400 < l.length then 15 else 0
def vcV (k : Int) (l : List Int) : Ar := if 400 < l.length then Ar.no else ⟨k, 1, l.length, 0, l⟩
theorem ln_vec (n : Nat) : lnE 1 [(n : Int)] = (if 400 < n then 15 else 0) ∧ ln0 1 [(n : Int)] = (if 400 < n then 0 else (n : Int)) ∧ ln1 1 [(n : Int)] = 0 := by
  have h : lnE 1 [(n : Int)] = (if 400 < n then 15 else 0) := by
    unfold lnE
    rw [if_neg (by omega), if_pos (by simp)]
    show ckS 1 n 0 = _
    unfold ckS cn
    rw [if_neg (by omega), if_neg (by omega)]
    by_cases hn : 400 < n
    · rw [if_pos (by omega), if_pos hn]
    · rw [if_neg (by simp; omega), if_neg hn]
  unfold ln0 ln1
  rw [h]
  by_cases hn : 400 < n
  · rw [if_pos hn, if_pos hn]; exact ⟨rfl, rfl, rfl⟩
  · rw [if_neg hn, if_neg hn]; exact ⟨rfl, rfl, rfl⟩
/-- What a walk keeps that hands back an array which it makes of numbers. -/
structure KV (w : World) (v : Value) (z : List Int) (w' : World) : Prop where
  bel : Below w.heap.size w w'
  res : R5 w' w.heap.size 0 0 0 0 (.slice none 0 0)
  rd : RdI w'.heap.size w' v z
theorem KV.next {w w' w'' : World} {v : Value} {z : List Int} (h : KV w v z w') (hb : Below w'.heap.size w' w'') : KV w v z w'' := ⟨h.bel.trans (hb.mono h.bel.size), h.res.next hb, h.rd.next hb⟩
theorem KV.new {w : World} {v : Value} {z : List Int} (hv : RdI w.heap.size w v z) : KV w v z (w.alloc (.cells #[.int .i64 0, .int .i64 0, .int .i64 0, .int .i64 0, .slice none 0 0] 43)) := ⟨bel1 _ _, R5.new _ _ _ _ _ _, hv.next (bel1 _ _)⟩
theorem one_int (W : World) (n : Int) : RdI (W.alloc (.cells #[.int .i64 n] 3)).heap.size (W.alloc (.cells #[.int .i64 n] 3)) (.slice (some ⟨W.heap.size, 0, none⟩) 1 1) [n] := by
  refine ⟨_, 1, rfl, Nat.le_refl _, by omega, fun _ => ⟨W.heap.size, 0, rfl, by simp, fun j hj => ?_⟩⟩
  simp at hj
  subst hj
  simp [World.cell?_alloc_new]

set_option maxRecDepth 100000 in
set_option maxHeartbeats 4000000 in
theorem vector_any (k : Int) (l : List Int) (v : Value) (w : World) (hv : RdI w.heap.size w v l) :
    Calls Tryz.prog 148 #[.int .i64 k, v] w (RetE (vcV k l) (vcE l) w) := by
  have HL : Hid (∀ (W : World) (g : Nat), W.heap.size = g → Calls Tryz.prog 186 #[.int .i64 1, .slice (some ⟨g, 0, none⟩) 1 1] (W.alloc (.cells #[.int .i64 (l.length : Int)] 3)) fun e w' => e = .returned (.tuple #[P2 (if 400 < l.length then 0 else (l.length : Int)) 0, .int .i64 (if 400 < l.length then 15 else 0)]) ∧ Below W.heap.size W w') := fun W g hg => by
    subst hg
    have := lens_any 1 _ [(l.length : Int)] (W.alloc (.cells #[.int .i64 (l.length : Int)] 3)) (one_int W l.length)
    rw [(ln_vec l.length).1, (ln_vec l.length).2.1, (ln_vec l.length).2.2] at this
    exact this.mono fun e w' ⟨h1, h2⟩ => ⟨h1, (bel1 _ _).trans (h2.mono (by simp))⟩
  have HK := Lib.hid (KV.new hv)
  have HF := Lib.hid (fun W hl h => filled_any k 1 l.length 0 v l W h hl)
  obtain ⟨p, cap, rfl, hcap, hcap2, hcell⟩ := hv
  clear hcell
  by_cases h4 : 400 < l.length
  · have HV : Hid (vcV k l = Ar.no ∧ vcE l = 15) := ⟨if_pos h4, if_pos h4⟩
    rw [HV.out.1, HV.out.2]
    rw [if_pos h4, if_pos h4] at HL
    clear h4
    go_enter Tryz.func148, Tryz.ntmps148
    go_wp2_with (go_at_call 186; refine (HL.out _ _ (by simp)).mono ?_; rintro e w' ⟨rfl, hb⟩; have HK2 := Lib.hid ((HK.out.next hb).next (bel1 _ (.cells #[.int .i64 0, .int .i64 0] 40))); clear HK hb; have HK := HK2; clear HK2; have y0 := HK.out.res.c0; have y1 := HK.out.res.c1; have y2 := HK.out.res.c2; have y3 := HK.out.res.c3; have y4 := HK.out.res.c4; have f0 := HK.out.res.fr 0; have f1 := HK.out.res.fr 1; have f2 := HK.out.res.fr 2; have f3 := HK.out.res.fr 3; have f4 := HK.out.res.fr 4; have HS := Lib.hid (HK.out.res.set 0 0 0 0 (.slice none 0 0)); have z0 := HS.out.c0; have z1 := HS.out.c1; have z2 := HS.out.c2; have z3 := HS.out.c3; have z4 := HS.out.c4)
    exact bodyPost_ret (v := .tuple #[A5 0 0 0 0 (.slice none 0 0), .int .i64 15]) (by simp [results, Tryz.results148, go_sem, z0, z1, z2, z3, z4]) rfl (retE_no 15 (st5_below _ _ _ _ _ (by omega) HK.out.bel))
  · have HV : Hid (vcV k l = ⟨k, 1, l.length, 0, l⟩ ∧ vcE l = 0) := ⟨if_neg h4, if_neg h4⟩
    rw [HV.out.1, HV.out.2]
    rw [if_neg h4, if_neg h4] at HL
    have h5 : l.length ≤ 500 := by omega
    clear h4
    go_enter Tryz.func148, Tryz.ntmps148
    go_wp2_with (first
      | (go_at_call 186; refine (HL.out _ _ (by simp)).mono ?_; rintro e w' ⟨rfl, hb⟩; have HK2 := Lib.hid ((HK.out.next hb).next (bel1 _ (.cells #[.int .i64 (l.length : Int), .int .i64 0] 40))); have HX := Lib.hid (R2.new w' (l.length : Int) 0); clear HK hb; have HK := HK2; clear HK2; have u0 := HX.out.c0; have u1 := HX.out.c1)
      | (go_at_call 149; refine (HF.out _ h5 HK.out.rd).mono ?_; rintro e w2 ⟨u, rfl, hu, hb⟩; obtain ⟨q, qc, rfl, hqc, hqd⟩ := hu.form; have HU := Lib.hid hu; have hlt := HK.out.res.lt; have HK2 := Lib.hid (HK.out.next hb); clear HK hb hu HX u0 u1; have HK := HK2; clear HK2; have y0 := HK.out.res.c0; have y1 := HK.out.res.c1; have y2 := HK.out.res.c2; have y3 := HK.out.res.c3; have y4 := HK.out.res.c4; have f0 := HK.out.res.fr 0; have f1 := HK.out.res.fr 1; have f2 := HK.out.res.fr 2; have f3 := HK.out.res.fr 3; have f4 := HK.out.res.fr 4; have HS := Lib.hid (HK.out.res.set k 1 (l.length : Int) 0 (.slice q l.length qc)); have z0 := HS.out.c0; have z1 := HS.out.c1; have z2 := HS.out.c2; have z3 := HS.out.c3; have z4 := HS.out.c4))
    refine bodyPost_ret (v := .tuple #[A5 k 1 (l.length : Int) 0 (.slice q l.length qc), .int .i64 0]) (by simp [results, Tryz.results148, go_sem, z0, z1, z2, z3, z4]) rfl ?_
    exact ⟨_, rfl, (HU.out.st5 hlt _ _ _ _ _).mono (by omega), st5_below _ _ _ _ _ (by omega) HK.out.bel⟩
end Go.Proofs.YtpbfbejckhbijaaGreatDoor
namespace Go.Proofs.YtpbfbejckhbijaaGreatDoor
open Go.RowKit

def inA (n : Int) : Ar := ⟨1, 0, 0, 0, [n]⟩
set_option maxRecDepth 100000 in
set_option maxHeartbeats 4000000 in
theorem ints_any (l : List Int) (v : Value) (w : World) (hv : RdI w.heap.size w v l) :
    Calls Tryz.prog 104 #[v] w (RetE (vcV 1 l) (vcE l) w) := by
  have HK := Lib.hid (KV.new hv)
  have HF := Lib.hid (fun W h => vector_any 1 l v W h)
  obtain ⟨p, cap, rfl, hcap, hcap2, hcell⟩ := hv
  clear hcell
  generalize vcV 1 l = A at HF ⊢
  generalize vcE l = E at HF ⊢
  obtain ⟨a1, a2, a3, a4, a5⟩ := A
  go_enter Tryz.func104, Tryz.ntmps104
  go_wp2_with (go_at_call 148; refine (HF.out _ HK.out.rd).mono ?_; rintro e w2 ⟨u, rfl, hu, hb⟩; obtain ⟨q, qc, rfl, hqc, hqd⟩ := hu.form; have HU := Lib.hid hu; have hlt := HK.out.res.lt; have HK2 := Lib.hid (HK.out.next hb); clear HK hb hu; have HK := HK2; clear HK2; have y0 := HK.out.res.c0; have y1 := HK.out.res.c1; have y2 := HK.out.res.c2; have y3 := HK.out.res.c3; have y4 := HK.out.res.c4; have f0 := HK.out.res.fr 0; have f1 := HK.out.res.fr 1; have f2 := HK.out.res.fr 2; have f3 := HK.out.res.fr 3; have f4 := HK.out.res.fr 4; have HS := Lib.hid (HK.out.res.set a1 a2 a3 a4 (.slice q a5.length qc)); have z0 := HS.out.c0; have z1 := HS.out.c1; have z2 := HS.out.c2; have z3 := HS.out.c3; have z4 := HS.out.c4)
  refine bodyPost_ret (v := .tuple #[A5 a1 a2 a3 a4 (.slice q a5.length qc), .int .i64 E]) (by simp [results, Tryz.results104, go_sem, z0, z1, z2, z3, z4]) rfl ?_
  exact ⟨_, rfl, (HU.out.st5 hlt _ _ _ _ _).mono (by omega), st5_below _ _ _ _ _ (by omega) HK.out.bel⟩

end Go.Proofs.YtpbfbejckhbijaaGreatDoor
namespace Go.Proofs.YtpbfbejckhbijaaGreatDoor
open Go.RowKit

abbrev vr (z : Int) : Value := .int .i32 z
/-- A slice of runes that can be read. -/
abbrev RdR := Rd vr
structure KVR (w : World) (v : Value) (z : List Int) (w' : World) : Prop where
  bel : Below w.heap.size w w'
  res : R5 w' w.heap.size 0 0 0 0 (.slice none 0 0)
  rd : RdR w'.heap.size w' v z
theorem KVR.next {w w' w'' : World} {v : Value} {z : List Int} (h : KVR w v z w') (hb : Below w'.heap.size w' w'') : KVR w v z w'' := ⟨h.bel.trans (hb.mono h.bel.size), h.res.next hb, h.rd.next hb⟩
theorem KVR.new {w : World} {v : Value} {z : List Int} (hv : RdR w.heap.size w v z) : KVR w v z (w.alloc (.cells #[.int .i64 0, .int .i64 0, .int .i64 0, .int .i64 0, .slice none 0 0] 43)) := ⟨bel1 _ _, R5.new _ _ _ _ _ _, hv.next (bel1 _ _)⟩

end Go.Proofs.YtpbfbejckhbijaaGreatDoor
namespace Go.Proofs.YtpbfbejckhbijaaGreatDoor
open Go.RowKit

/-- A slice of rows that can be read. -/
def RdM (B : Nat) (w : World) (v : Value) (l : List (List Int)) : Prop :=
  ∃ a cap, v = .slice a l.length cap ∧ (l.length ≤ cap ∧ cap ≤ 9223372036854775807) ∧ (l ≠ [] → ∃ b off, a = some ⟨b, off, none⟩ ∧ b < B ∧ ∀ j (h : j < l.length), ∃ u, w.cell? ⟨b, off + j, none⟩ = some u ∧ RdI B w u l[j] ∧ Ru.NilC u)
theorem RdM.below {B : Nat} {w w' : World} {v : Value} {l : List (List Int)} (h : RdM B w v l) (hb : Below B w w') : RdM B w' v l := by
  obtain ⟨a, cap, hv, hc, h⟩ := h
  refine ⟨a, cap, hv, hc, fun hn => ?_⟩
  obtain ⟨b, off, ha, hlt, hcell⟩ := h hn
  refine ⟨b, off, ha, hlt, fun j hj => ?_⟩
  obtain ⟨u, h1, h2, h3⟩ := hcell j hj
  exact ⟨u, (hb.cell (p := ⟨b, off + j, none⟩) hlt).trans h1, h2.below hb, h3⟩
theorem RdM.mono {B B' : Nat} {w : World} {v : Value} {l : List (List Int)} (h : RdM B w v l) (hB : B ≤ B') : RdM B' w v l := by
  obtain ⟨a, cap, hv, hc, h⟩ := h
  refine ⟨a, cap, hv, hc, fun hn => ?_⟩
  obtain ⟨b, off, ha, hlt, hcell⟩ := h hn
  refine ⟨b, off, ha, Nat.lt_of_lt_of_le hlt hB, fun j hj => ?_⟩
  obtain ⟨u, h1, h2, h3⟩ := hcell j hj
  exact ⟨u, h1, h2.mono hB, h3⟩
theorem RdM.next {w w' : World} {v : Value} {l : List (List Int)} (h : RdM w.heap.size w v l) (hb : Below w.heap.size w w') : RdM w'.heap.size w' v l := (h.below hb).mono hb.size
theorem RdM.cells {B : Nat} {w : World} {p : Option Addr} {n cap : Nat} {l : List (List Int)} (h : RdM B w (.slice p n cap) l) (hne : l ≠ []) : ∃ b off, p = some ⟨b, off, none⟩ ∧ b < B ∧ ∀ j (hj : j < l.length), ∃ u, w.cell? ⟨b, off + j, none⟩ = some u ∧ RdI B w u l[j] ∧ Ru.NilC u := by
  obtain ⟨p', cap', h1, _, h3⟩ := h
  cases h1
  exact h3 hne
theorem ins_form {B : Nat} {w : World} {v : Value} {l : List Int} (h : Ru.Ins 2 w B v l) : ∃ a c, v = .slice a l.length c := by
  obtain ⟨a, c, h1, _⟩ := (ins_new h).form
  exact ⟨a, c, h1⟩

/-- The numbers of the rows, one after the other. -/
def flt (l : List (List Int)) : List Int := l.flatten
theorem flt_take {l : List (List Int)} {j : Nat} (h : j < l.length) : flt (l.take (j + 1)) = flt (l.take j) ++ l[j] := by
  unfold flt
  rw [List.take_succ_eq_append_getElem h, List.flatten_append, List.flatten_cons, List.flatten_nil, List.append_nil]
theorem flt_le (l : List (List Int)) (j : Nat) : (flt (l.take j)).length ≤ (flt l).length := by
  conv => rhs; rw [← List.take_append_drop j l]
  unfold flt
  rw [List.flatten_append, List.length_append]; omega

end Go.Proofs.YtpbfbejckhbijaaGreatDoor
namespace Go.Proofs.YtpbfbejckhbijaaGreatDoor
open Go.RowKit

/-- How long the first row is, and whether all are as long. -/
def wid (l : List (List Int)) : Nat := (l.headD []).length
def evn (l : List (List Int)) : Bool := l.all fun r => r.length == wid l
def mtE (l : List (List Int)) : Int := if 400 < l.length then 15 else if evn l = false then 11 else if 400 < wid l ∨ 400 < l.length * wid l then 15 else 0
def mtV (l : List (List Int)) : Ar := if mtE l = 0 then ⟨1, 2, l.length, wid l, flt l⟩ else Ar.no
theorem flt_evn {l : List (List Int)} (h : evn l = true) : (flt l).length = l.length * wid l := by
  have key : ∀ (m : List (List Int)) (n : Nat), (∀ r ∈ m, r.length = n) → m.flatten.length = m.length * n := by
    intro m n hm
    induction m with
    | nil => simp
    | cons r m ih =>
      rw [List.flatten_cons, List.length_append, ih (fun r hr => hm r (by simp [hr])), hm r (by simp), List.length_cons, Nat.succ_mul]
      omega
  refine key l (wid l) fun r hr => ?_
  have := List.all_eq_true.1 h r hr
  simpa using this
theorem ln_mat (n m : Nat) (hn : n ≤ 400) : lnE 2 [(n : Int), (m : Int)] = (if 400 < m ∨ 400 < n * m then 15 else 0) ∧ ln0 2 [(n : Int), (m : Int)] = (if 400 < m ∨ 400 < n * m then 0 else (n : Int)) ∧ ln1 2 [(n : Int), (m : Int)] = (if 400 < m ∨ 400 < n * m then 0 else (m : Int)) := by
  have h : lnE 2 [(n : Int), (m : Int)] = (if 400 < m ∨ 400 < n * m then 15 else 0) := by
    unfold lnE
    rw [if_neg (by omega), if_pos (by simp)]
    show ckS 2 n m = _
    unfold ckS
    rw [if_neg (by omega), if_neg (by omega)]
    have e : cn 2 (n : Int) (m : Int) = ((n * m : Nat) : Int) := by unfold cn; rw [if_neg (by decide), if_neg (by decide), Int.natCast_mul]
    rw [e]
    by_cases hb : 400 < m ∨ 400 < n * m
    · rw [if_pos (by omega), if_pos hb]
    · rw [if_neg (by omega), if_neg hb]
  unfold ln0 ln1
  rw [h]
  by_cases hb : 400 < m ∨ 400 < n * m
  · rw [if_pos hb, if_pos hb, if_pos hb]; exact ⟨rfl, rfl, rfl⟩
  · rw [if_neg hb, if_neg hb, if_neg hb]; exact ⟨rfl, rfl, rfl⟩
theorem two_int (W : World) (n m : Int) : RdI (W.alloc (.cells #[.int .i64 n, .int .i64 m] 3)).heap.size (W.alloc (.cells #[.int .i64 n, .int .i64 m] 3)) (.slice (some ⟨W.heap.size, 0, none⟩) 2 2) [n, m] := by
  refine ⟨_, 2, rfl, Nat.le_refl _, by omega, fun _ => ⟨W.heap.size, 0, rfl, by simp, fun j hj => ?_⟩⟩
  match j, hj with
  | 0, _ => simp [World.cell?_alloc_new]
  | 1, _ => simp [World.cell?_alloc_new]
/-- What a walk of Matrix keeps. -/
structure KX (w : World) (v : Value) (l : List (List Int)) (W : World) : Prop where
  bel : Below w.heap.size w W
  res : R5 W w.heap.size 0 0 0 0 (.slice none 0 0)
  rd : RdM w.heap.size W v l
theorem KX.next {w W W' : World} {v : Value} {l : List (List Int)} (h : KX w v l W) (hb : Below W.heap.size W W') : KX w v l W' := ⟨h.bel.trans (hb.mono h.bel.size), h.res.next hb, h.rd.below (hb.mono h.bel.size)⟩
theorem KX.new {w : World} {v : Value} {l : List (List Int)} (hv : RdM w.heap.size w v l) : KX w v l (w.alloc (.cells #[.int .i64 0, .int .i64 0, .int .i64 0, .int .i64 0, .slice none 0 0] 43)) := ⟨bel1 _ _, R5.new _ _ _ _ _ _, hv.below (bel1 _ _)⟩
/-- What its last region keeps. -/
structure KY (w : World) (g : Nat) (n m : Int) (W : World) : Prop where
  bel : Below w.heap.size w W
  box : R2 W g n m
abbrev KY2 (w : World) (g : Nat) (n m : Int) (W : World) : Prop := KY w g n m W ∧ W.cell? ⟨g, 0, none⟩ = some (.int .i64 n) ∧ W.cell? ⟨g, 1, none⟩ = some (.int .i64 m)
theorem KY.all {w W : World} {g : Nat} {n m : Int} (h : KY w g n m W) : KY2 w g n m W := ⟨h, h.box.c0, h.box.c1⟩
theorem KY.next {w W W' : World} {g : Nat} {n m : Int} (h : KY w g n m W) (hb : Below W.heap.size W W') : KY2 w g n m W' := KY.all ⟨h.bel.trans (hb.mono h.bel.size), h.box.next hb⟩
theorem KY.drew {w W : World} {g : Nat} {n m : Int} (h : KY w g n m W) : KY2 w g n m W.drew := h.next (Below.refl _ _).drew
theorem KY.st {w W : World} {g : Nat} {n m : Int} (h : KY w g n m W) (hg : g ≠ w.heap.size) (k r a b : Int) (u : Value) : KY2 w g n m (st5 W w.heap.size k r a b u) :=
  KY.all ⟨st5_below k r a b u (Nat.le_refl _) h.bel, (st5_other k r a b u hg).trans h.box⟩
theorem evn_at {l : List (List Int)} {j : Nat} (h : j < l.length) (hn : l[j].length ≠ wid l) : evn l = false := by
  unfold evn
  rw [List.all_eq_false]
  exact ⟨l[j], List.getElem_mem h, by simpa using hn⟩
theorem evn_all {l : List (List Int)} (h : ∀ j (hj : j < l.length), l[j].length = wid l) : evn l = true := by
  unfold evn
  rw [List.all_eq_true]
  intro r hr
  obtain ⟨j, hj, rfl⟩ := List.getElem_of_mem hr
  simpa using h j hj

end Go.Proofs.YtpbfbejckhbijaaGreatDoor
namespace Go.Proofs.YtpbfbejckhbijaaGreatDoor
open Go.RowKit

/-- What At, With return. -/
def atE (A : Ar) (p q : Int) : Int := if ck A = 0 then plE A.r A.a A.b p q else ck A
def atP (A : Ar) (p q : Int) : Int := if ck A = 0 then plV A.r A.a A.b p q else 0
def atV (A : Ar) (p q : Int) : Int := if atE A p q = 0 then A.z.getD (atP A p q).toNat 0 else 0
def wtA (A : Ar) (p q v : Int) : Ar := ⟨A.k, A.r, A.a, A.b, A.z.set (atP A p q).toNat v⟩
def wtE (A : Ar) (p q v : Int) : Int := if atE A p q = 0 then (if A.k = 2 ∧ Ru.isR v = false then 7 else 0) else atE A p q
def wtV (A : Ar) (p q v : Int) : Ar := if wtE A p q v = 0 then wtA A p q v else Ar.no
theorem atE_ok {A : Ar} {p q : Int} (h : atE A p q = 0) : Good A ∧ 0 ≤ atP A p q ∧ atP A p q < A.z.length := by
  unfold atE at h
  by_cases hk : ck A = 0
  · rw [if_pos hk] at h
    have hg := ck_good hk
    unfold atP
    rw [if_pos hk]
    unfold plE at h
    rw [if_pos (sh_ok hg.sh)] at h
    unfold plV plE
    rw [if_pos (sh_ok hg.sh), h, if_pos rfl]
    have hh : 0 ≤ p ∧ p < mxa A.r A.a ∧ 0 ≤ q ∧ q < mxb A.r A.b := by
      by_cases hc : 0 ≤ p ∧ p < mxa A.r A.a ∧ 0 ≤ q ∧ q < mxb A.r A.b
      · exact hc
      · rw [if_neg hc] at h; cases h
    obtain ⟨p0, p1, q0, q1⟩ := hh
    have hm := mx_cn A.r A.a A.b hg.sh.bd.1
    have hl := hg.len
    have e1 : p * mxb A.r A.b ≤ (mxa A.r A.a - 1) * mxb A.r A.b := Int.mul_le_mul_of_nonneg_right (by omega) (by omega)
    have e2 : (mxa A.r A.a - 1) * mxb A.r A.b = mxa A.r A.a * mxb A.r A.b - mxb A.r A.b := by rw [Int.sub_mul]; omega
    have e0 := Int.mul_nonneg p0 (show 0 ≤ mxb A.r A.b by omega)
    exact ⟨hg, by omega, by omega⟩
  · rw [if_neg hk] at h; exact absurd h hk
theorem all_set {z : List Int} {i : Nat} (hi : i < z.length) {v : Int} (h : z.all Ru.isR = true) : (z.set i v).all Ru.isR = Ru.isR v := by
  cases hv : Ru.isR v
  · rw [List.all_eq_false]
    exact ⟨v, List.mem_set hi v, by simp [hv]⟩
  · rw [List.all_eq_true]
    intro x hx
    rcases List.mem_or_eq_of_mem_set hx with hx | rfl
    · exact List.all_eq_true.1 h x hx
    · exact hv
theorem wt_ck {A : Ar} {p q v : Int} (h : atE A p q = 0) : ck (wtA A p q v) = wtE A p q v ∧ mk (wtA A p q v) = wtV A p q v := by
  obtain ⟨hg, h0, h1⟩ := atE_ok h
  have e : ck (wtA A p q v) = wtE A p q v := by
    unfold wtE
    rw [if_pos h]
    by_cases hk : A.k = 2
    · have ha := all_set (i := (atP A p q).toNat) (by omega) (v := v) (hg.runes hk)
      cases hv : Ru.isR v
      · rw [if_pos ⟨hk, rfl⟩]
        unfold ck wtA
        simp only
        rw [if_neg (by omega), if_neg (by rw [sh_ok hg.sh]; decide), if_neg (by rw [List.length_set, hg.len]; simp), if_pos ⟨hk, by rw [ha, hv]⟩]
      · rw [if_neg (by simp)]
        exact good_ck ⟨hg.kind, hg.sh, by unfold wtA; simp only [List.length_set]; exact hg.len, fun _ => by unfold wtA; simp only; rw [ha, hv]⟩
    · rw [if_neg (by simp [hk])]
      exact good_ck ⟨hg.kind, hg.sh, by unfold wtA; simp only [List.length_set]; exact hg.len, fun e => absurd e hk⟩
  refine ⟨e, ?_⟩
  unfold mk wtV
  rw [e]

/-- What a walk over an array and an index keeps. -/
structure KP (w : World) (A : Ar) (v : Value) (p q : Int) (w' : World) : Prop where
  bel : Below w.heap.size w w'
  blk : R5 w' w.heap.size A.k A.r A.a A.b v
  idx : R2 w' (w.heap.size + 1) p q
  rd : RdI w.heap.size w' v A.z
  lay : Ru.Lay w'
theorem KP.next {w w' w'' : World} {A : Ar} {v : Value} {p q : Int} (h : KP w A v p q w') (hb : Below w'.heap.size w' w'') : KP w A v p q w'' :=
  ⟨h.bel.trans (hb.mono h.bel.size), h.blk.next hb, h.idx.next hb, h.rd.below (hb.mono h.bel.size), h.lay.next hb⟩
theorem KP.rdn {w w' : World} {A : Ar} {v : Value} {p q : Int} (h : KP w A v p q w') : RdI w'.heap.size w' v A.z := h.rd.mono h.bel.size
theorem KP.new {w : World} {A : Ar} {v : Value} (p q : Int) (hw : Ru.Lay w) (hv : RdI w.heap.size w v A.z) : KP w A v p q ((w.alloc (.cells #[.int .i64 A.k, .int .i64 A.r, .int .i64 A.a, .int .i64 A.b, v] 43)).alloc (.cells #[.int .i64 p, .int .i64 q] 40)) := by
  have hb : Below w.heap.size w ((w.alloc (.cells #[.int .i64 A.k, .int .i64 A.r, .int .i64 A.a, .int .i64 A.b, v] 43)).alloc (.cells #[.int .i64 p, .int .i64 q] 40)) := (bel1 _ _).trans ((bel1 _ _).mono (by simp))
  refine ⟨hb, (R5.new w _ _ _ _ _).alloc _, ?_, hv.below hb, (hw.alloc _).alloc _⟩
  have : (w.alloc (.cells #[.int .i64 A.k, .int .i64 A.r, .int .i64 A.a, .int .i64 A.b, v] 43)).heap.size = w.heap.size + 1 := by simp
  rw [← this]; exact R2.new _ _ _

/-- A row of the call's own that is not empty. -/
theorem ins_some {W : World} {B : Nat} {u : Value} {z : List Int} (h : Ru.Ins 2 W B u z) (hz : z ≠ []) :
    ∃ g c, u = .slice (some ⟨g, 0, none⟩) z.length c ∧ (B ≤ g ∧ g < W.heap.size) ∧ (∀ j (hj : j < z.length), W.cell? ⟨g, j, none⟩ = some (.int .i64 z[j])) ∧ (∀ j, W.frozen? ⟨g, j, none⟩ = false) ∧ ∀ j v, j < z.length → Ru.Ins 2 (W.setCell ⟨g, j, none⟩ (.int .i64 v)) B u (z.set j v) := by
  have h' := h
  obtain ⟨h1, ⟨rfl, h0⟩ | ⟨g, cap, cur, rfl, hg, hh, r1, r2, r3, r4⟩⟩ := h
  · exact absurd (List.length_eq_zero_iff.1 h0) hz
  · refine ⟨g, cap, rfl, ⟨hg, (Array.getElem?_eq_some_iff.1 hh).1⟩, fun j hj => ?_, fun j => Lib.frozen_of_heap hh j, fun j v hj => ?_⟩
    · have := World.ownsRow.cellAt h' j (by omega)
      rw [this]
      simp [List.getElem?_eq_getElem hj]
    · refine ⟨by simp, .inr ⟨g, cap, cur.setIfInBounds j (.int .i64 v), by rw [List.length_set], hg, ?_, by rw [List.length_set]; exact r1, r2, by simpa using r3, ?_⟩⟩
      · simp [World.setCell, Array.getElem?_modify, hh]
      · rw [List.length_set, Array.toList_setIfInBounds, List.take_set, r4, List.map_set]
/-- What a walk of With keeps. -/
structure KW (w : World) (A : Ar) (v : Value) (p q : Int) (w' : World) : Prop where
  bel : Below w.heap.size w w'
  blk : R5 w' w.heap.size A.k A.r A.a A.b v
  idx : R2 w' (w.heap.size + 1) p q
  res : R5 w' (w.heap.size + 2) 0 0 0 0 (.slice none 0 0)
  rd : RdI w.heap.size w' v A.z
  lay : Ru.Lay w'
theorem KW.next {w w' w'' : World} {A : Ar} {v : Value} {p q : Int} (h : KW w A v p q w') (hb : Below w'.heap.size w' w'') : KW w A v p q w'' :=
  ⟨h.bel.trans (hb.mono h.bel.size), h.blk.next hb, h.idx.next hb, h.res.next hb, h.rd.below (hb.mono h.bel.size), h.lay.next hb⟩
theorem KW.rdn {w w' : World} {A : Ar} {v : Value} {p q : Int} (h : KW w A v p q w') : RdI w'.heap.size w' v A.z := h.rd.mono h.bel.size
theorem KW.put {w w' : World} {A : Ar} {v : Value} {p q : Int} (h : KW w A v p q w') (hs : 0 + 1 ≤ w.heap.size) {g : Nat} (hg : w.heap.size + 2 < g) (j : Nat) (x : Value) : KW w A v p q (w'.setCell ⟨g, j, none⟩ x) :=
  ⟨h.bel.setCell (p := ⟨g, j, none⟩) (by show w.heap.size ≤ g; omega) _, (blkO _ _ _ _ (by omega)).trans h.blk, (blkO _ _ _ _ (by omega)).trans h.idx, (blkO _ _ _ _ (by omega)).trans h.res,
    h.rd.below ((Below.refl _ w').setCell (p := ⟨g, j, none⟩) (by show w.heap.size ≤ g; omega) _), h.lay.below (B := w.heap.size + 2) (by omega) ((Below.refl _ w').setCell (p := ⟨g, j, none⟩) (by show w.heap.size + 2 ≤ g; omega) _)⟩
theorem KW.new {w : World} {A : Ar} {v : Value} (p q : Int) (hw : Ru.Lay w) (hv : RdI w.heap.size w v A.z) : KW w A v p q (((w.alloc (.cells #[.int .i64 A.k, .int .i64 A.r, .int .i64 A.a, .int .i64 A.b, v] 43)).alloc (.cells #[.int .i64 p, .int .i64 q] 40)).alloc (.cells #[.int .i64 0, .int .i64 0, .int .i64 0, .int .i64 0, .slice none 0 0] 43)) := by
  have h := KP.new (A := A) p q hw hv
  have h2 := h.next (bel1 _ (.cells #[.int .i64 0, .int .i64 0, .int .i64 0, .int .i64 0, .slice none 0 0] 43))
  refine ⟨h2.bel, h2.blk, h2.idx, ?_, h2.rd, h2.lay⟩
  have : ((w.alloc (.cells #[.int .i64 A.k, .int .i64 A.r, .int .i64 A.a, .int .i64 A.b, v] 43)).alloc (.cells #[.int .i64 p, .int .i64 q] 40)).heap.size = w.heap.size + 2 := by simp
  rw [← this]; exact R5.new _ _ _ _ _ _

end Go.Proofs.YtpbfbejckhbijaaGreatDoor
namespace Go.Proofs.YtpbfbejckhbijaaGreatDoor
open Go.RowKit

def cmZ (a b : Int) : Int := if a < b then -1 else if b < a then 1 else 0
/-- The order of lists. -/
def lxZ : List Int → List Int → Int
  | [], [] => 0
  | [], _ :: _ => -1
  | _ :: _, [] => 1
  | x :: l, y :: m => if cmZ x y = 0 then lxZ l m else cmZ x y
/-- The first number that is not 0. -/
def orZ : List Int → Int
  | [] => 0
  | x :: l => if x = 0 then orZ l else x
def cmV (A B : Ar) : Int := orZ [cmZ A.k B.k, cmZ A.r B.r, lxZ [A.a, A.b] [B.a, B.b], lxZ A.z B.z]
def cpE (A B : Ar) : Int := if ck A = 0 then ck B else ck A
def cpV (A B : Ar) : Int := if cpE A B = 0 then cmV A B else 0
theorem lx_eq {l m : List Int} {j : Nat} (hl : j < l.length) (hm : j < m.length) (h : cmZ l[j] m[j] = 0) : lxZ (l.drop j) (m.drop j) = lxZ (l.drop (j + 1)) (m.drop (j + 1)) := by
  rw [List.drop_eq_getElem_cons hl, List.drop_eq_getElem_cons hm]
  simp only [lxZ, h, if_true]
theorem lx_ne {l m : List Int} {j : Nat} (hl : j < l.length) (hm : j < m.length) (h : cmZ l[j] m[j] ≠ 0) : lxZ (l.drop j) (m.drop j) = cmZ l[j] m[j] := by
  rw [List.drop_eq_getElem_cons hl, List.drop_eq_getElem_cons hm]
  simp only [lxZ]
  exact if_neg h
theorem lx_long {l m : List Int} {j : Nat} (hl : j < l.length) (hm : ¬ j < m.length) : lxZ (l.drop j) (m.drop j) = 1 := by
  rw [List.drop_eq_getElem_cons hl, List.drop_eq_nil_of_le (show m.length ≤ j by omega)]; rfl
theorem lx_end {l m : List Int} {j : Nat} (hl : ¬ j < l.length) : lxZ (l.drop j) (m.drop j) = if j < m.length then -1 else 0 := by
  rw [List.drop_eq_nil_of_le (show l.length ≤ j by omega)]
  by_cases hm : j < m.length
  · rw [List.drop_eq_getElem_cons hm, if_pos hm]; rfl
  · rw [List.drop_eq_nil_of_le (show m.length ≤ j by omega), if_neg hm]; rfl
theorem or_eq {l : List Int} {j : Nat} (hl : j < l.length) (h : l[j] = 0) : orZ (l.drop j) = orZ (l.drop (j + 1)) := by
  rw [List.drop_eq_getElem_cons hl]
  simp only [orZ, h, if_true]
theorem or_ne {l : List Int} {j : Nat} (hl : j < l.length) (h : l[j] ≠ 0) : orZ (l.drop j) = l[j] := by
  rw [List.drop_eq_getElem_cons hl]
  simp only [orZ]
  exact if_neg h

set_option maxHeartbeats 1000000 in
theorem cmp_i64 (a b : Int) (w : World) : Calls Tryz.prog 123 #[.int .i64 a, .int .i64 b] w fun e w' => e = .returned (.int .i64 (cmZ a b)) ∧ w = w' := by
  by_cases h1 : a < b
  · rw [show cmZ a b = -1 from if_pos h1]
    go_enter Tryz.func123, Tryz.ntmps123
    go_wp2
    go_ret
    exact ⟨rfl, rfl⟩
  · by_cases h2 : b < a
    · rw [show cmZ a b = 1 by unfold cmZ; rw [if_neg h1, if_pos h2]]
      go_enter Tryz.func123, Tryz.ntmps123
      go_wp2
      go_ret
      exact ⟨rfl, rfl⟩
    · rw [show cmZ a b = 0 by unfold cmZ; rw [if_neg h1, if_neg h2]]
      go_enter Tryz.func123, Tryz.ntmps123
      go_wp2
      go_ret
      exact ⟨rfl, rfl⟩

/-- The lengths of an array that is boxed, as a slice. -/
theorem R5.lens {w : World} {g : Nat} {k r a b : Int} {v : Value} (h : R5 w g k r a b v) : RdI w.heap.size w (.slice (some ⟨g, 2, none⟩) 2 2) [a, b] := by
  refine ⟨_, 2, rfl, Nat.le_refl _, by omega, fun _ => ⟨g, 2, rfl, h.lt, fun j hj => ?_⟩⟩
  match j, hj with
  | 0, _ => exact h.c2
  | 1, _ => exact h.c3
theorem four_int (W : World) (g : Nat) (hg : W.heap.size = g) (a b c d : Int) : RdI (W.alloc (.cells #[.int .i64 a, .int .i64 b, .int .i64 c, .int .i64 d] 3)).heap.size (W.alloc (.cells #[.int .i64 a, .int .i64 b, .int .i64 c, .int .i64 d] 3)) (.slice (some ⟨g, 0, none⟩) 4 4) [a, b, c, d] := by
  subst hg
  refine ⟨_, 4, rfl, Nat.le_refl _, by omega, fun _ => ⟨W.heap.size, 0, rfl, by simp, fun j hj => ?_⟩⟩
  match j, hj with
  | 0, _ => simp [World.cell?_alloc_new]
  | 1, _ => simp [World.cell?_alloc_new]
  | 2, _ => simp [World.cell?_alloc_new]
  | 3, _ => simp [World.cell?_alloc_new]
abbrev KD3 (w : World) (A : Ar) (v : Value) (B : Ar) (u : Value) (L : World → Prop) (W : World) : Prop := (KD w A v B u W ∧ L W) ∧ W.cell? ⟨w.heap.size, 0, none⟩ = some (.int .i64 A.k) ∧ W.cell? ⟨w.heap.size, 1, none⟩ = some (.int .i64 A.r) ∧ W.cell? ⟨w.heap.size, 4, none⟩ = some v ∧ W.cell? ⟨w.heap.size + 1, 0, none⟩ = some (.int .i64 B.k) ∧ W.cell? ⟨w.heap.size + 1, 1, none⟩ = some (.int .i64 B.r) ∧ W.cell? ⟨w.heap.size + 1, 4, none⟩ = some u ∧ w.heap.size < W.heap.size ∧ w.heap.size + 1 < W.heap.size
theorem KD.all {w W : World} {A B : Ar} {v u : Value} {L : World → Prop} (h : KD w A v B u W) (hL : L W) : KD3 w A v B u L W := ⟨⟨h, hL⟩, h.b0.c0, h.b0.c1, h.b0.c4, h.b1.c0, h.b1.c1, h.b1.c4, h.b0.lt, h.b1.lt⟩

end Go.Proofs.YtpbfbejckhbijaaGreatDoor
namespace Go.Proofs.YtpbfbejckhbijaaGreatDoor
open Go.RowKit

/-- How many rows an array has, and how many cells each has. -/
def rwN (A : Ar) : Nat := (rw0 A.r A.a A.b).toNat
def rwM (A : Ar) : Nat := (rw1 A.r A.a A.b).toNat
def rwI (A : Ar) (i : Nat) : List Int := (A.z.drop (i * rwM A)).take (rwM A)
def rwL (A : Ar) : List (List Int) := if ck A = 0 then (List.range (rwN A)).map (rwI A) else []
theorem rw_good {A : Ar} (h : Good A) : rw0 A.r A.a A.b = (rwN A : Int) ∧ rw1 A.r A.a A.b = (rwM A : Int) ∧ rwN A * rwM A = A.z.length ∧ rwN A ≤ 400 ∧ rwM A ≤ 400 := by
  have hl := h.len
  have hb := h.sh.bd
  have hk := sh_ok h.sh
  unfold rwN rwM rw0 rw1
  rw [if_pos hk, if_pos hk]
  by_cases h2 : A.r = 2
  · rw [if_pos h2, if_pos h2]
    unfold cn at hl
    rw [if_neg (by omega), if_neg (by omega)] at hl
    refine ⟨by omega, by omega, ?_, by omega, by omega⟩
    have e1 : A.a = (A.a.toNat : Int) := by omega
    have e2 : A.b = (A.b.toNat : Int) := by omega
    rw [e1, e2] at hl
    have : ((A.a.toNat * A.b.toNat : Nat) : Int) = (A.z.length : Int) := by rw [Int.natCast_mul]; exact hl.symm
    omega
  · rw [if_neg h2, if_neg h2]
    exact ⟨by omega, by omega, by simp; omega, by omega, by omega⟩
theorem rwI_len {A : Ar} (h : Good A) {i : Nat} (hi : i < rwN A) : (rwI A i).length = rwM A := by
  obtain ⟨_, _, h3, _, _⟩ := rw_good h
  unfold rwI
  rw [List.length_take, List.length_drop, ← h3]
  have : (i + 1) * rwM A ≤ rwN A * rwM A := Nat.mul_le_mul_right _ hi
  rw [Nat.add_mul] at this
  omega
theorem rwI_get {A : Ar} {i t : Nat} (ht : t < (rwI A i).length) {h : i * rwM A + t < A.z.length} : (rwI A i)[t] = A.z[i * rwM A + t] := by
  simp only [rwI, List.getElem_take, List.getElem_drop]
theorem rwL_len {A : Ar} (h : ck A = 0) : (rwL A).length = rwN A := by unfold rwL; rw [if_pos h]; simp
theorem rwL_get {A : Ar} (h : ck A = 0) (i : Nat) (hi : i < (rwL A).length) : (rwL A)[i] = rwI A i := by
  unfold rwL at hi ⊢
  simp only [if_pos h]
  simp
theorem infoS : (Tryz.prog.info? 41).map (fun i => (i.zero, i.size, i.bytes)) = some (some (.slice none 0 0), 1, 24) := by kernel_rfl

/-- The rows, as far as they have been cut. -/
def sf (g m k i : Nat) : Value := if i < k then .slice (some ⟨g, i * m, none⟩) m m else .slice none 0 0
theorem sf_next {w : World} {b g m k n : Nat} {x : Value} (h : w.rowIs b 41 n (sf g m k)) (hx : .slice (some ⟨g, k * m, none⟩) m m = x) : (w.setCell ⟨b, k, none⟩ x).rowIs b 41 n (sf g m (k + 1)) := by
  subst hx
  refine (h.set k _).congr fun i hi => ?_
  show (if i = k then Value.slice (some ⟨g, k * m, none⟩) m m else sf g m k i) = sf g m (k + 1) i
  unfold sf
  by_cases e : i = k
  · subst e; rw [if_pos rfl, if_pos (by omega)]
  · rw [if_neg e]
    by_cases e2 : i < k
    · rw [if_pos e2, if_pos (by omega)]
    · rw [if_neg e2, if_neg (by omega)]
/-- What a walk of Rows keeps. -/
structure KO (w : World) (A : Ar) (v : Value) (W : World) : Prop where
  bel : Below w.heap.size w W
  blk : R5 W w.heap.size A.k A.r A.a A.b v
  rd : RdI w.heap.size W v A.z
  lay : Ru.Lay W
theorem KO.next {w W W' : World} {A : Ar} {v : Value} (h : KO w A v W) (hb : Below W.heap.size W W') : KO w A v W' :=
  ⟨h.bel.trans (hb.mono h.bel.size), h.blk.next hb, h.rd.below (hb.mono h.bel.size), h.lay.next hb⟩
theorem KO.rdn {w W : World} {A : Ar} {v : Value} (h : KO w A v W) : RdI W.heap.size W v A.z := h.rd.mono h.bel.size
theorem KO.new {w : World} {A : Ar} {v : Value} (hw : Ru.Lay w) (hv : RdI w.heap.size w v A.z) : KO w A v (w.alloc (.cells #[.int .i64 A.k, .int .i64 A.r, .int .i64 A.a, .int .i64 A.b, v] 43)) :=
  ⟨bel1 _ _, R5.new _ _ _ _ _ _, hv.below (bel1 _ _), hw.alloc _⟩

theorem rows_done {A : Ar} (hk : ck A = 0) {W V : World} {b g : Nat} (hg : g < W.heap.size)
    (hcs : ∀ j (hj : j < A.z.length), W.cell? ⟨g, j, none⟩ = some (.int .i64 A.z[j])) (hgg : V.heap[g]? = W.heap[g]?)
    (hr : V.rowIs b 41 (rwN A) (sf g (rwM A) (rwN A))) : RdM V.heap.size V (.slice (some ⟨b, 0, none⟩) (rwN A) (rwN A)) (rwL A) := by
  obtain ⟨_, _, r2, r3, r4⟩ := rw_good (ck_good hk)
  have hgV : g < V.heap.size := by
    rw [Array.getElem?_eq_getElem hg] at hgg
    exact (Array.getElem?_eq_some_iff.1 hgg).1
  have hbV : b < V.heap.size := by
    obtain ⟨c, hc, _⟩ := hr
    exact (Array.getElem?_eq_some_iff.1 hc).1
  have hL := rwL_len hk
  refine ⟨some ⟨b, 0, none⟩, rwN A, by rw [hL], ⟨by rw [hL]; exact Nat.le_refl _, by omega⟩, fun _ => ⟨b, 0, rfl, hbV, fun i hi => ⟨_, (by rw [Nat.zero_add]; exact hr.cell (by omega)), ?_, ?_⟩⟩⟩
  · rw [rwL_get hk i hi]
    have hi' : i < rwN A := by omega
    have hI := rwI_len (ck_good hk) hi'
    unfold sf
    rw [if_pos hi']
    refine ⟨some ⟨g, i * rwM A, none⟩, rwM A, by rw [hI], by rw [hI]; exact Nat.le_refl _, by omega, fun _ => ⟨g, i * rwM A, rfl, hgV, fun t ht => ?_⟩⟩
    have hle : (i + 1) * rwM A ≤ rwN A * rwM A := Nat.mul_le_mul_right _ hi'
    rw [Nat.add_mul] at hle
    have hc : V.cell? ⟨g, i * rwM A + t, none⟩ = W.cell? ⟨g, i * rwM A + t, none⟩ := by
      unfold World.cell?
      show (match V.heap[g]? with | some (.cells c _ _) => _ | _ => none) = _
      rw [hgg]
      rfl
    rw [hc, hcs _ (by omega)]
    rw [rwI_get ht]
  · intro n c e
    unfold sf at e
    rw [if_pos (by omega)] at e
    cases e
theorem ins_none {W : World} {B : Nat} {u : Value} {z : List Int} (h : Ru.Ins 2 W B u z) (hz : z = []) : ∃ q c, u = .slice q 0 c ∧ c ≤ 9223372036854775807 ∧ ((q = none ∧ c = 0) ∨ ∃ g, q = some ⟨g, 0, none⟩) := by
  subst hz
  obtain ⟨h1, ⟨rfl, h0⟩ | ⟨g, cap, cur, rfl, hg, hh, r1, r2, r3, r4⟩⟩ := h
  · exact ⟨none, 0, rfl, by omega, .inl ⟨rfl, rfl⟩⟩
  · exact ⟨_, cap, rfl, r2, .inr ⟨g, rfl⟩⟩
/-- The same where there is nothing to cut. -/
def ef (q : Option Addr) (k i : Nat) : Value := if i < k then .slice q 0 0 else .slice none 0 0
theorem ef_next {w : World} {b k n : Nat} {q : Option Addr} {x : Value} (h : w.rowIs b 41 n (ef q k)) (hx : .slice q 0 0 = x) : (w.setCell ⟨b, k, none⟩ x).rowIs b 41 n (ef q (k + 1)) := by
  subst hx
  refine (h.set k _).congr fun i hi => ?_
  show (if i = k then Value.slice q 0 0 else ef q k i) = ef q (k + 1) i
  unfold ef
  by_cases e : i = k
  · subst e; rw [if_pos rfl, if_pos (by omega)]
  · rw [if_neg e]
    by_cases e2 : i < k
    · rw [if_pos e2, if_pos (by omega)]
    · rw [if_neg e2, if_neg (by omega)]
theorem rows_none {A : Ar} (hk : ck A = 0) (hz : A.z = []) {V : World} {b : Nat} {q : Option Addr}
    (hr : V.rowIs b 41 (rwN A) (ef q (rwN A))) : RdM V.heap.size V (.slice (some ⟨b, 0, none⟩) (rwN A) (rwN A)) (rwL A) := by
  obtain ⟨_, _, r2, r3, r4⟩ := rw_good (ck_good hk)
  have hbV : b < V.heap.size := by
    obtain ⟨c, hc, _⟩ := hr
    exact (Array.getElem?_eq_some_iff.1 hc).1
  have hL := rwL_len hk
  refine ⟨some ⟨b, 0, none⟩, rwN A, by rw [hL], ⟨by rw [hL]; exact Nat.le_refl _, by omega⟩, fun _ => ⟨b, 0, rfl, hbV, fun i hi => ⟨_, (by rw [Nat.zero_add]; exact hr.cell (by omega)), ?_, ?_⟩⟩⟩
  · rw [rwL_get hk i hi]
    have hi' : i < rwN A := by omega
    have hI : rwI A i = [] := by unfold rwI; rw [hz]; simp
    unfold ef
    rw [if_pos hi', hI]
    exact ⟨q, 0, rfl, Nat.le_refl _, by omega, fun h => absurd rfl h⟩
  · intro n c e
    unfold ef at e
    rw [if_pos (by omega)] at e
    cases e
    rfl
theorem ins_cap {W : World} {B g n c : Nat} {z : List Int} (h : Ru.Ins 2 W B (.slice (some ⟨g, 0, none⟩) n c) z) : n ≤ c ∧ c ≤ 9223372036854775807 := by
  obtain ⟨h1, ⟨h2, h0⟩ | ⟨g', cap, cur, h2, hg, hh, r1, r2, r3, r4⟩⟩ := h
  · cases h2
  · cases h2; exact ⟨r1, r2⟩
end Go.Proofs.YtpbfbejckhbijaaGreatDoor
