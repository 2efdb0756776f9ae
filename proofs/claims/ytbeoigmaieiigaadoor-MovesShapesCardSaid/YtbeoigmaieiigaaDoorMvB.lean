/- fault: the errors of a list of operands. -/
import Derived.Test.YtbeoigmaieiigaaDoorMvA
namespace Go.Proofs.YtbeoigmaieiigaaDoor
open Go.RowKit

/-- An operand: an array, the kind that is asked for, the least and the greatest rank. -/
structure Opd where
  A : Ar
  v : Value
  k : Int
  l : Int
  m : Int
/-- An operand lies in memory. -/
structure OpAt (w : World) (g o : Nat) (x : Opd) : Prop where
  c0 : w.cell? ⟨g, o, none⟩ = some (.int .i64 x.A.k)
  c1 : w.cell? ⟨g, o + 1, none⟩ = some (.int .i64 x.A.r)
  c2 : w.cell? ⟨g, o + 2, none⟩ = some (.int .i64 x.A.a)
  c3 : w.cell? ⟨g, o + 3, none⟩ = some (.int .i64 x.A.b)
  c4 : w.cell? ⟨g, o + 4, none⟩ = some x.v
  c5 : w.cell? ⟨g, o + 5, none⟩ = some (.int .i64 x.k)
  c6 : w.cell? ⟨g, o + 6, none⟩ = some (.int .i64 x.l)
  c7 : w.cell? ⟨g, o + 7, none⟩ = some (.int .i64 x.m)
theorem OpAt.below {w w' : World} {g o B : Nat} {x : Opd} (h : OpAt w g o x) (hg : g < B) (hb : Below B w w') : OpAt w' g o x :=
  ⟨(hb.cell (p := ⟨g, o, none⟩) hg).trans h.c0, (hb.cell (p := ⟨g, o + 1, none⟩) hg).trans h.c1, (hb.cell (p := ⟨g, o + 2, none⟩) hg).trans h.c2, (hb.cell (p := ⟨g, o + 3, none⟩) hg).trans h.c3,
   (hb.cell (p := ⟨g, o + 4, none⟩) hg).trans h.c4, (hb.cell (p := ⟨g, o + 5, none⟩) hg).trans h.c5, (hb.cell (p := ⟨g, o + 6, none⟩) hg).trans h.c6, (hb.cell (p := ⟨g, o + 7, none⟩) hg).trans h.c7⟩
def Opd.bad (x : Opd) : Prop := x.A.r < x.l ∨ x.m < x.A.r
/-- What fault returns. -/
def FaIs (L : List Opd) (E : Int) : Prop :=
  (∃ (j : Nat) (h : j < L.length), (∀ t (ht : t < L.length), t < j → ck L[t].A = 0) ∧ ck L[j].A = E ∧ E ≠ 0) ∨
  ((∀ t (ht : t < L.length), ck L[t].A = 0) ∧
    (((∃ (j : Nat) (h : j < L.length), L[j].A.k ≠ L[j].k) ∧ E = 21) ∨
     ((∀ t (ht : t < L.length), L[t].A.k = L[t].k) ∧
       (((∃ (j : Nat) (h : j < L.length), L[j].bad) ∧ E = 22) ∨ ((∀ t (ht : t < L.length), ¬ L[t].bad) ∧ E = 0)))))
theorem fa_one {x : Opd} {E : Int} (hk : x.A.k = x.k) (h : FaIs [x] E) : E = oneE x.A x.l x.m := by
  unfold oneE
  rcases h with ⟨j, hj, _, h1, h2⟩ | ⟨h1, h⟩
  · have : j = 0 := by simp at hj; omega
    subst this
    simp only [List.getElem_cons_zero] at h1
    rw [if_neg (by omega), h1]
  · have c0 : ck x.A = 0 := h1 0 (by simp)
    rw [if_pos c0]
    rcases h with ⟨⟨j, hj, h2⟩, _⟩ | ⟨_, ⟨⟨j, hj, h2⟩, h3⟩ | ⟨h2, h3⟩⟩
    · have : j = 0 := by simp at hj; omega
      subst this
      exact absurd hk h2
    · have : j = 0 := by simp at hj; omega
      subst this
      rw [if_pos (show x.A.r < x.l ∨ x.m < x.A.r from h2), h3]
    · rw [if_neg (show ¬ (x.A.r < x.l ∨ x.m < x.A.r) from h2 0 (by simp)), h3]
theorem fa_two {x y : Opd} {E : Int} (h : FaIs [x, y] E) : E = twoE x.A y.A x.k y.k x.l x.m y.l y.m := by
  unfold twoE
  have two : ∀ j, j < [x, y].length → j = 0 ∨ j = 1 := fun j hj => by simp at hj; omega
  rcases h with ⟨j, hj, h0, h1, h2⟩ | ⟨h1, h⟩
  · rcases two j hj with rfl | rfl
    · simp only [List.getElem_cons_zero] at h1
      rw [if_neg (by omega), h1]
    · simp only [List.getElem_cons_succ, List.getElem_cons_zero] at h1
      have c0 : ck x.A = 0 := h0 0 (by simp) (by omega)
      rw [if_pos c0, if_neg (by omega), h1]
  · have c0 : ck x.A = 0 := h1 0 (by simp)
    have c1 : ck y.A = 0 := h1 1 (by simp)
    rw [if_pos c0, if_pos c1]
    rcases h with ⟨⟨j, hj, h2⟩, h3⟩ | ⟨hk, ⟨⟨j, hj, h2⟩, h3⟩ | ⟨h2, h3⟩⟩
    · rw [if_neg, h3]
      rintro ⟨e1, e2⟩
      rcases two j hj with rfl | rfl
      · exact h2 e1
      · exact h2 e2
    · rw [if_pos ⟨hk 0 (by simp), hk 1 (by simp)⟩, if_pos, h3]
      rcases two j hj with rfl | rfl
      · rcases h2 with e | e
        · exact .inl e
        · exact .inr (.inl e)
      · rcases h2 with e | e
        · exact .inr (.inr (.inl e))
        · exact .inr (.inr (.inr e))
    · have n0 := h2 0 (by simp)
      have n1 := h2 1 (by simp)
      unfold Opd.bad at n0 n1
      simp only [List.getElem_cons_zero, List.getElem_cons_succ] at n0 n1
      rw [if_pos ⟨hk 0 (by simp), hk 1 (by simp)⟩, if_neg (by omega), h3]

set_option maxRecDepth 100000 in
set_option maxHeartbeats 4000000 in
theorem fault_any (L : List Opd) (g : Nat) (w : World) (hw : Ru.Lay w) (hL : L.length ≤ 10) (hg : g < w.heap.size)
    (hc : ∀ j (hj : j < L.length), OpAt w g (j * 8) L[j]) (hr : ∀ j (hj : j < L.length), RdI w.heap.size w L[j].v L[j].A.z ∧ L[j].A.z.length ≤ 1000000) :
    Calls Tryd.prog 39 #[.slice (some ⟨g, 0, none⟩) L.length L.length] w fun e w' => ∃ E, e = .returned (.int .i64 E) ∧ FaIs L E ∧ Below w.heap.size w w' := by
  have HC := Lib.hid hc
  have HR := Lib.hid hr
  have HW := Lib.hid hw
  have HCh := Lib.hid (fun A v W h1 h2 h3 => acheck_any A v W h1 h2 h3)
  clear hc hr hw
  go_enter Tryd.func39, Tryd.ntmps39
  go_wp2
  go_loopg [12] L.length (fun gk i wr => ∃ j : Nat, j + gk = L.length ∧ i = .int .i64 j ∧ (∀ t (ht : t < L.length), t < j → ck L[t].A = 0) ∧ Below w.heap.size w wr)
  case atStart => exact ⟨0, by omega, rfl, fun t _ h => absurd h (by omega), Below.refl _ _⟩
  case round =>
    obtain ⟨j, hjg, rfl, hck, hbl⟩ := hrel
    have HCk := Lib.hid hck
    have HB := Lib.hid hbl
    clear hck hbl
    cases gk with
    | zero =>
      have hjz : ¬ ((j : Int) < (L.length : Int)) := by omega
      have HAll : Hid (∀ t (ht : t < L.length), ck L[t].A = 0) := fun t ht => HCk.out t ht (by omega)
      clear HCk
      go_wp2
      clear hjz hjg
      go_loopg [25] L.length (fun gk i wr => ∃ j : Nat, j + gk = L.length ∧ i = .int .i64 j ∧ (∀ t (ht : t < L.length), t < j → L[t].A.k = L[t].k) ∧ Below w.heap.size w wr)
      case atStart => exact ⟨0, by omega, rfl, fun t _ h => absurd h (by omega), HB.out⟩
      case round =>
        clear HB
        obtain ⟨j, hjg, rfl, hck, hbl⟩ := hrel
        have HKk := Lib.hid hck
        have HB := Lib.hid hbl
        clear hck hbl
        cases gk with
        | zero =>
          have hjz : ¬ ((j : Int) < (L.length : Int)) := by omega
          have HAlk : Hid (∀ t (ht : t < L.length), L[t].A.k = L[t].k) := fun t ht => HKk.out t ht (by omega)
          clear HKk
          go_wp2
          clear hjz hjg
          go_loopg [38] L.length (fun gk i wr => ∃ j : Nat, j + gk = L.length ∧ i = .int .i64 j ∧ (∀ t (ht : t < L.length), t < j → ¬ L[t].bad) ∧ Below w.heap.size w wr)
          case atStart => exact ⟨0, by omega, rfl, fun t _ h => absurd h (by omega), HB.out⟩
          case round =>
            clear HB
            obtain ⟨j, hjg, rfl, hck, hbl⟩ := hrel
            have HBd := Lib.hid hck
            have HB := Lib.hid hbl
            clear hck hbl
            cases gk with
            | zero =>
              have hjz : ¬ ((j : Int) < (L.length : Int)) := by omega
              have HAlb : Hid (∀ t (ht : t < L.length), ¬ L[t].bad) := fun t ht => HBd.out t ht (by omega)
              clear HBd
              go_wp2
              go_ret
              exact ⟨_, rfl, .inr ⟨HAll.out, .inr ⟨HAlk.out, .inr ⟨HAlb.out, rfl⟩⟩⟩, HB.out⟩
            | succ g2 =>
              have hjz : (j : Int) < (L.length : Int) := by omega
              have hj : j < L.length := by omega
              have HO := Lib.hid ((HC.out j hj).below hg HB.out)
              have HV := Lib.hid (((HR.out j hj).1.below HB.out).mono HB.out.size)
              have HEx : Hid (L[j].bad → FaIs L 22) := fun e => .inr ⟨HAll.out, .inr ⟨HAlk.out, .inl ⟨⟨j, hj, e⟩, rfl⟩⟩⟩
              have HNx : Hid (¬ L[j].bad → ∀ t (ht : t < L.length), t < j + 1 → ¬ L[t].bad) := fun e t ht h => by
                rcases Nat.lt_succ_iff_lt_or_eq.1 h with h | h
                · exact HBd.out t ht h
                · subst h; exact e
              generalize L[j] = x at HO HV HEx HNx
              obtain ⟨⟨k, r, a, b, z⟩, v, kk, l, m⟩ := x
              simp only at HV HEx HNx
              have x0 := HO.out.c0; have x1 := HO.out.c1; have x2 := HO.out.c2; have x3 := HO.out.c3; have x4 := HO.out.c4; have x5 := HO.out.c5; have x6 := HO.out.c6; have x7 := HO.out.c7
              simp only at x0 x1 x2 x3 x4 x5 x6 x7
              have HV2 := Lib.hid HV.out
              obtain ⟨p, cap, rfl, hcap, hcap2, hcell⟩ := HV.out
              clear hcell HV
              have HA1 : Hid (Below wr.heap.size wr (wr.alloc (.cells #[.int .i64 k, .int .i64 r, .int .i64 a, .int .i64 b, .slice p z.length cap, .int .i64 kk, .int .i64 l, .int .i64 m] 48))) := bel1 _ _
              have HB2 := Lib.hid (HB.out.trans (HA1.out.mono HB.out.size))
              by_cases h1 : r < l
              · have HF := Lib.hid (HEx.out (.inl h1))
                go_wp2
                go_ret
                exact ⟨_, rfl, HF.out, HB2.out⟩
              · by_cases h2 : m < r
                · have HF := Lib.hid (HEx.out (.inr h2))
                  go_wp2
                  go_ret
                  exact ⟨_, rfl, HF.out, HB2.out⟩
                · have HF := Lib.hid (HNx.out (fun e => by rcases e with e | e; (exact h1 e); exact h2 e))
                  go_wp2
                  go_roundg g2
                  case measure => omega
                  case rel => exact ⟨j + 1, by omega, by go_num, HF.out, HB2.out⟩
        | succ g2 =>
          have hjz : (j : Int) < (L.length : Int) := by omega
          have hj : j < L.length := by omega
          have HO := Lib.hid ((HC.out j hj).below hg HB.out)
          have HV := Lib.hid (((HR.out j hj).1.below HB.out).mono HB.out.size)
          have HEx : Hid (L[j].A.k ≠ L[j].k → FaIs L 21) := fun e => .inr ⟨HAll.out, .inl ⟨⟨j, hj, e⟩, rfl⟩⟩
          have HNx : Hid (L[j].A.k = L[j].k → ∀ t (ht : t < L.length), t < j + 1 → L[t].A.k = L[t].k) := fun e t ht h => by
            rcases Nat.lt_succ_iff_lt_or_eq.1 h with h | h
            · exact HKk.out t ht h
            · subst h; exact e
          generalize L[j] = x at HO HV HEx HNx
          obtain ⟨⟨k, r, a, b, z⟩, v, kk, l, m⟩ := x
          simp only at HV HEx HNx
          have x0 := HO.out.c0; have x1 := HO.out.c1; have x2 := HO.out.c2; have x3 := HO.out.c3; have x4 := HO.out.c4; have x5 := HO.out.c5; have x6 := HO.out.c6; have x7 := HO.out.c7
          simp only at x0 x1 x2 x3 x4 x5 x6 x7
          have HV2 := Lib.hid HV.out
          obtain ⟨p, cap, rfl, hcap, hcap2, hcell⟩ := HV.out
          clear hcell HV
          have HA1 : Hid (Below wr.heap.size wr (wr.alloc (.cells #[.int .i64 k, .int .i64 r, .int .i64 a, .int .i64 b, .slice p z.length cap, .int .i64 kk, .int .i64 l, .int .i64 m] 48))) := bel1 _ _
          have HB2 := Lib.hid (HB.out.trans (HA1.out.mono HB.out.size))
          by_cases h1 : k = kk
          · have HF := Lib.hid (HNx.out h1)
            have k1 : (k != kk) = false := by simpa using h1
            clear h1
            go_wp2
            go_roundg g2
            case measure => omega
            case rel => exact ⟨j + 1, by omega, by go_num, HF.out, HB2.out⟩
          · have HF := Lib.hid (HEx.out h1)
            have k1 : (k != kk) = true := by simpa using h1
            clear h1
            go_wp2
            go_ret
            exact ⟨_, rfl, HF.out, HB2.out⟩
    | succ g2 =>
      have hjz : (j : Int) < (L.length : Int) := by omega
      have hj : j < L.length := by omega
      have HO := Lib.hid ((HC.out j hj).below hg HB.out)
      have HV := Lib.hid (((HR.out j hj).1.below HB.out).mono HB.out.size)
      have hz := (HR.out j hj).2
      have HEx : Hid (∀ (E : Int), ck L[j].A = E → E ≠ 0 → FaIs L E) := fun E e n => .inl ⟨j, hj, HCk.out, e, n⟩
      have HNx : Hid (ck L[j].A = 0 → ∀ t (ht : t < L.length), t < j + 1 → ck L[t].A = 0) := fun e t ht h => by
        rcases Nat.lt_succ_iff_lt_or_eq.1 h with h | h
        · exact HCk.out t ht h
        · subst h; exact e
      generalize L[j] = x at HO HV hz HEx HNx
      obtain ⟨⟨k, r, a, b, z⟩, v, kk, l, m⟩ := x
      simp only at HV hz HEx HNx
      have x0 := HO.out.c0; have x1 := HO.out.c1; have x2 := HO.out.c2; have x3 := HO.out.c3; have x4 := HO.out.c4; have x5 := HO.out.c5; have x6 := HO.out.c6; have x7 := HO.out.c7
      simp only at x0 x1 x2 x3 x4 x5 x6 x7
      have HV2 := Lib.hid HV.out
      obtain ⟨p, cap, rfl, hcap, hcap2, hcell⟩ := HV.out
      clear hcell HV
      have HA1 : Hid (Below wr.heap.size wr (wr.alloc (.cells #[.int .i64 k, .int .i64 r, .int .i64 a, .int .i64 b, .slice p z.length cap, .int .i64 kk, .int .i64 l, .int .i64 m] 48))) := bel1 _ _
      have HB2 := Lib.hid (HB.out.trans (HA1.out.mono HB.out.size))
      have HLA := Lib.hid (HW.out.next HB2.out)
      have HRA := Lib.hid (HV2.out.next HA1.out)
      have HC1 := Lib.hid (fun W h1 h2 => HCh.out ⟨k, r, a, b, z⟩ (.slice p z.length cap) W h1 h2 hz)
      obtain ⟨E, hE⟩ : ∃ E, ck ⟨k, r, a, b, z⟩ = E := ⟨_, rfl⟩
      rw [hE] at HC1 HNx HEx
      clear hE hz
      by_cases h0 : E = 0
      · have HN2 := Lib.hid (HNx.out h0)
        subst h0
        go_wp2_with (go_at_call 54; (with_reducible refine (HC1.out _ HLA.out HRA.out).mono ?_); rintro e w' ⟨rfl, hb⟩; have HB3 := Lib.hid (HB2.out.trans (hb.mono HB2.out.size)); clear hb)
        go_roundg g2
        case measure => omega
        case rel => exact ⟨j + 1, by omega, by go_num, HN2.out, HB3.out⟩
      · have HF := Lib.hid (HEx.out E rfl h0)
        have k1 : (E != 0) = true := by simpa using h0
        clear h0
        go_wp2_with (go_at_call 54; (with_reducible refine (HC1.out _ HLA.out HRA.out).mono ?_); rintro e w' ⟨rfl, hb⟩; have HB3 := Lib.hid (HB2.out.trans (hb.mono HB2.out.size)); clear hb)
        go_ret
        exact ⟨_, rfl, HF.out, HB3.out⟩
/-- One operand, laid by the caller. -/
theorem fault1_any (A : Ar) (v : Value) (l m : Int) (W : World) (g : Nat) (hg : W.heap.size = g) (hw : Ru.Lay W) (hv : RdI W.heap.size W v A.z) (hl : A.z.length ≤ 1000000) :
    Calls Tryd.prog 39 #[.slice (some ⟨g, 0, none⟩) 1 1] (W.alloc (.cells #[.int .i64 A.k, .int .i64 A.r, .int .i64 A.a, .int .i64 A.b, v, .int .i64 A.k, .int .i64 l, .int .i64 m] 48)) fun e w' => e = .returned (.int .i64 (oneE A l m)) ∧ Below W.heap.size W w' := by
  subst hg
  have hb := bel1 W (.cells #[.int .i64 A.k, .int .i64 A.r, .int .i64 A.a, .int .i64 A.b, v, .int .i64 A.k, .int .i64 l, .int .i64 m] 48)
  refine (fault_any [⟨A, v, A.k, l, m⟩] W.heap.size _ (hw.next hb) (by simp) (by simp) (fun j hj => ?_) (fun j hj => ?_)).mono fun e w' ⟨E, h1, h2, h3⟩ => ⟨by rw [h1, fa_one rfl h2], hb.trans (h3.mono hb.size)⟩
  all_goals
    obtain rfl : j = 0 := by simp at hj; omega
  · constructor <;> (unfold World.cell?; rw [heap_alloc_last]; rfl)
  · exact ⟨hv.next hb, hl⟩
/-- Two operands. -/
theorem fault2_any (A B : Ar) (v u : Value) (k l m k' l' m' : Int) (W : World) (g : Nat) (hg : W.heap.size = g) (hw : Ru.Lay W) (hv : RdI W.heap.size W v A.z) (hu : RdI W.heap.size W u B.z) (hl : A.z.length ≤ 1000000) (hl' : B.z.length ≤ 1000000) :
    Calls Tryd.prog 39 #[.slice (some ⟨g, 0, none⟩) 2 2] (W.alloc (.cells #[.int .i64 A.k, .int .i64 A.r, .int .i64 A.a, .int .i64 A.b, v, .int .i64 k, .int .i64 l, .int .i64 m, .int .i64 B.k, .int .i64 B.r, .int .i64 B.a, .int .i64 B.b, u, .int .i64 k', .int .i64 l', .int .i64 m'] 48)) fun e w' => e = .returned (.int .i64 (twoE A B k k' l m l' m')) ∧ Below W.heap.size W w' := by
  subst hg
  have hb := bel1 W (.cells #[.int .i64 A.k, .int .i64 A.r, .int .i64 A.a, .int .i64 A.b, v, .int .i64 k, .int .i64 l, .int .i64 m, .int .i64 B.k, .int .i64 B.r, .int .i64 B.a, .int .i64 B.b, u, .int .i64 k', .int .i64 l', .int .i64 m'] 48)
  refine (fault_any [⟨A, v, k, l, m⟩, ⟨B, u, k', l', m'⟩] W.heap.size _ (hw.next hb) (by simp) (by simp) (fun j hj => ?_) (fun j hj => ?_)).mono fun e w' ⟨E, h1, h2, h3⟩ => ⟨by rw [h1, fa_two h2], hb.trans (h3.mono hb.size)⟩
  · have : j = 0 ∨ j = 1 := by simp at hj; omega
    rcases this with rfl | rfl <;> constructor <;> (unfold World.cell?; rw [heap_alloc_last]; rfl)
  · have : j = 0 ∨ j = 1 := by simp at hj; omega
    rcases this with rfl | rfl
    · exact ⟨hv.next hb, hl⟩
    · exact ⟨hu.next hb, hl'⟩
end Go.Proofs.YtbeoigmaieiigaaDoor
