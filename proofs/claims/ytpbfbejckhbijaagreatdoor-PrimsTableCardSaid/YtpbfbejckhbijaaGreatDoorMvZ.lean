/- Several texts as one (a claim has at most 60 files): MvB, MvC, MvD, MvE, MvF, MvG, MvH, MvI, MvJ, MvK, MvL, MvM, MvN, MvO. -/
import Derived.Test.YtpbfbejckhbijaaGreatDoorMvA
import Derived.Deep.RegionHeld3
import Derived.BigQuiet
import Derived.Shelf.RegionOpenPlain
import Derived.Laws.CopyRow
import Derived.Laws.IdiomCopy
import Derived.Deep.DeepCutAuto
import Derived.StillTailTactics
namespace Go.Proofs.YtpbfbejckhbijaaGreatDoor
open Go.RowKit

/-- An operand: an array, the kind that is asked for, the least and the greatest rank. -/
structure Opd where
  A : Ar
  v : Value
  k : Int
  l : Int
  m : Int
/-- An operand lies in memory. -/
structure OpAt (w : World) (g o : Nat) (x : Opd) : Prop where
  c0 : w.cell? ⟨g, o, none⟩ = some (.int .i64 x.A.k)
  c1 : w.cell? ⟨g, o + 1, none⟩ = some (.int .i64 x.A.r)
  c2 : w.cell? ⟨g, o + 2, none⟩ = some (.int .i64 x.A.a)
  c3 : w.cell? ⟨g, o + 3, none⟩ = some (.int .i64 x.A.b)
  c4 : w.cell? ⟨g, o + 4, none⟩ = some x.v
  c5 : w.cell? ⟨g, o + 5, none⟩ = some (.int .i64 x.k)
  c6 : w.cell? ⟨g, o + 6, none⟩ = some (.int .i64 x.l)
  c7 : w.cell? ⟨g, o + 7, none⟩ = some (.int .i64 x.m)
theorem OpAt.below {w w' : World} {g o B : Nat} {x : Opd} (h : OpAt w g o x) (hg : g < B) (hb : Below B w w') : OpAt w' g o x :=
  ⟨(hb.cell (p := ⟨g, o, none⟩) hg).trans h.c0, (hb.cell (p := ⟨g, o + 1, none⟩) hg).trans h.c1, (hb.cell (p := ⟨g, o + 2, none⟩) hg).trans h.c2, (hb.cell (p := ⟨g, o + 3, none⟩) hg).trans h.c3,
   (hb.cell (p := ⟨g, o + 4, none⟩) hg).trans h.c4, (hb.cell (p := ⟨g, o + 5, none⟩) hg).trans h.c5, (hb.cell (p := ⟨g, o + 6, none⟩) hg).trans h.c6, (hb.cell (p := ⟨g, o + 7, none⟩) hg).trans h.c7⟩
def Opd.bad (x : Opd) : Prop := x.A.r < x.l ∨ x.m < x.A.r
/-- What fault returns. -/
def FaIs (L : List Opd) (E : Int) : Prop :=
  (∃ (j : Nat) (h : j < L.length), (∀ t (ht : t < L.length), t < j → ck L[t].A = 0) ∧ ck L[j].A = E ∧ E ≠ 0) ∨
  ((∀ t (ht : t < L.length), ck L[t].A = 0) ∧
    (((∃ (j : Nat) (h : j < L.length), L[j].A.k ≠ L[j].k) ∧ E = 21) ∨
     ((∀ t (ht : t < L.length), L[t].A.k = L[t].k) ∧
       (((∃ (j : Nat) (h : j < L.length), L[j].bad) ∧ E = 22) ∨ ((∀ t (ht : t < L.length), ¬ L[t].bad) ∧ E = 0)))))
theorem fa_one {x : Opd} {E : Int} (hk : x.A.k = x.k) (h : FaIs [x] E) : E = oneE x.A x.l x.m := by
  unfold oneE
  rcases h with ⟨j, hj, _, h1, h2⟩ | ⟨h1, h⟩
  · have : j = 0 := by simp at hj; omega
    subst this
    simp only [List.getElem_cons_zero] at h1
    rw [if_neg (by omega), h1]
  · have c0 : ck x.A = 0 := h1 0 (by simp)
    rw [if_pos c0]
    rcases h with ⟨⟨j, hj, h2⟩, _⟩ | ⟨_, ⟨⟨j, hj, h2⟩, h3⟩ | ⟨h2, h3⟩⟩
    · have : j = 0 := by simp at hj; omega
      subst this
      exact absurd hk h2
    · have : j = 0 := by simp at hj; omega
      subst this
      rw [if_pos (show x.A.r < x.l ∨ x.m < x.A.r from h2), h3]
    · rw [if_neg (show ¬ (x.A.r < x.l ∨ x.m < x.A.r) from h2 0 (by simp)), h3]
theorem fa_two {x y : Opd} {E : Int} (h : FaIs [x, y] E) : E = twoE x.A y.A x.k y.k x.l x.m y.l y.m := by
  unfold twoE
  have two : ∀ j, j < [x, y].length → j = 0 ∨ j = 1 := fun j hj => by simp at hj; omega
  rcases h with ⟨j, hj, h0, h1, h2⟩ | ⟨h1, h⟩
  · rcases two j hj with rfl | rfl
    · simp only [List.getElem_cons_zero] at h1
      rw [if_neg (by omega), h1]
    · simp only [List.getElem_cons_succ, List.getElem_cons_zero] at h1
      have c0 : ck x.A = 0 := h0 0 (by simp) (by omega)
      rw [if_pos c0, if_neg (by omega), h1]
  · have c0 : ck x.A = 0 := h1 0 (by simp)
    have c1 : ck y.A = 0 := h1 1 (by simp)
    rw [if_pos c0, if_pos c1]
    rcases h with ⟨⟨j, hj, h2⟩, h3⟩ | ⟨hk, ⟨⟨j, hj, h2⟩, h3⟩ | ⟨h2, h3⟩⟩
    · rw [if_neg, h3]
      rintro ⟨e1, e2⟩
      rcases two j hj with rfl | rfl
      · exact h2 e1
      · exact h2 e2
    · rw [if_pos ⟨hk 0 (by simp), hk 1 (by simp)⟩, if_pos, h3]
      rcases two j hj with rfl | rfl
      · rcases h2 with e | e
        · exact .inl e
        · exact .inr (.inl e)
      · rcases h2 with e | e
        · exact .inr (.inr (.inl e))
        · exact .inr (.inr (.inr e))
    · have n0 := h2 0 (by simp)
      have n1 := h2 1 (by simp)
      unfold Opd.bad at n0 n1
      simp only [List.getElem_cons_zero, List.getElem_cons_succ] at n0 n1
      rw [if_pos ⟨hk 0 (by simp), hk 1 (by simp)⟩, if_neg (by omega), h3]

set_option maxRecDepth 100000 in
set_option maxHeartbeats 4000000 in
theorem fault_any (L : List Opd) (g : Nat) (w : World) (hw : Ru.Lay w) (hL : L.length ≤ 10) (hg : g < w.heap.size)
    (hc : ∀ j (hj : j < L.length), OpAt w g (j * 8) L[j]) (hr : ∀ j (hj : j < L.length), RdI w.heap.size w L[j].v L[j].A.z ∧ L[j].A.z.length ≤ 1000000) :
    Calls Tryz.prog 105 #[.slice (some ⟨g, 0, none⟩) L.length L.length] w fun e w' => ∃ E, e = .returned (.int .i64 E) ∧ FaIs L E ∧ Below w.heap.size w w' := by
  have HC := Lib.hid hc
  have HR := Lib.hid hr
  have HW := Lib.hid hw
  have HCh := Lib.hid (fun A v W h1 h2 h3 => acheck_any A v W h1 h2 h3)
  clear hc hr hw
  go_enter Tryz.func105, Tryz.ntmps105
  go_wp2
  go_loopg [12] L.length (fun gk i wr => ∃ j : Nat, j + gk = L.length ∧ i = .int .i64 j ∧ (∀ t (ht : t < L.length), t < j → ck L[t].A = 0) ∧ Below w.heap.size w wr)
  case atStart => exact ⟨0, by omega, rfl, fun t _ h => absurd h (by omega), Below.refl _ _⟩
  case round =>
    obtain ⟨j, hjg, rfl, hck, hbl⟩ := hrel
    have HCk := Lib.hid hck
    have HB := Lib.hid hbl
    clear hck hbl
    cases gk with
    | zero =>
      have hjz : ¬ ((j : Int) < (L.length : Int)) := by omega
      have HAll : Hid (∀ t (ht : t < L.length), ck L[t].A = 0) := fun t ht => HCk.out t ht (by omega)
      clear HCk
      go_wp2
      clear hjz hjg
      go_loopg [25] L.length (fun gk i wr => ∃ j : Nat, j + gk = L.length ∧ i = .int .i64 j ∧ (∀ t (ht : t < L.length), t < j → L[t].A.k = L[t].k) ∧ Below w.heap.size w wr)
      case atStart => exact ⟨0, by omega, rfl, fun t _ h => absurd h (by omega), HB.out⟩
      case round =>
        clear HB
        obtain ⟨j, hjg, rfl, hck, hbl⟩ := hrel
        have HKk := Lib.hid hck
        have HB := Lib.hid hbl
        clear hck hbl
        cases gk with
        | zero =>
          have hjz : ¬ ((j : Int) < (L.length : Int)) := by omega
          have HAlk : Hid (∀ t (ht : t < L.length), L[t].A.k = L[t].k) := fun t ht => HKk.out t ht (by omega)
          clear HKk
          go_wp2
          clear hjz hjg
          go_loopg [38] L.length (fun gk i wr => ∃ j : Nat, j + gk = L.length ∧ i = .int .i64 j ∧ (∀ t (ht : t < L.length), t < j → ¬ L[t].bad) ∧ Below w.heap.size w wr)
          case atStart => exact ⟨0, by omega, rfl, fun t _ h => absurd h (by omega), HB.out⟩
          case round =>
            clear HB
            obtain ⟨j, hjg, rfl, hck, hbl⟩ := hrel
            have HBd := Lib.hid hck
            have HB := Lib.hid hbl
            clear hck hbl
            cases gk with
            | zero =>
              have hjz : ¬ ((j : Int) < (L.length : Int)) := by omega
              have HAlb : Hid (∀ t (ht : t < L.length), ¬ L[t].bad) := fun t ht => HBd.out t ht (by omega)
              clear HBd
              go_wp2
              go_ret
              exact ⟨_, rfl, .inr ⟨HAll.out, .inr ⟨HAlk.out, .inr ⟨HAlb.out, rfl⟩⟩⟩, HB.out⟩
            | succ g2 =>
              have hjz : (j : Int) < (L.length : Int) := by omega
              have hj : j < L.length := by omega
              have HO := Lib.hid ((HC.out j hj).below hg HB.out)
              have HV := Lib.hid (((HR.out j hj).1.below HB.out).mono HB.out.size)
              have HEx : Hid (L[j].bad → FaIs L 22) := fun e => .inr ⟨HAll.out, .inr ⟨HAlk.out, .inl ⟨⟨j, hj, e⟩, rfl⟩⟩⟩
              have HNx : Hid (¬ L[j].bad → ∀ t (ht : t < L.length), t < j + 1 → ¬ L[t].bad) := fun e t ht h => by
                rcases Nat.lt_succ_iff_lt_or_eq.1 h with h | h
                · exact HBd.out t ht h
                · subst h; exact e
              generalize L[j] = x at HO HV HEx HNx
              obtain ⟨⟨k, r, a, b, z⟩, v, kk, l, m⟩ := x
              simp only at HV HEx HNx
              have x0 := HO.out.c0; have x1 := HO.out.c1; have x2 := HO.out.c2; have x3 := HO.out.c3; have x4 := HO.out.c4; have x5 := HO.out.c5; have x6 := HO.out.c6; have x7 := HO.out.c7
              simp only at x0 x1 x2 x3 x4 x5 x6 x7
              have HV2 := Lib.hid HV.out
              obtain ⟨p, cap, rfl, hcap, hcap2, hcell⟩ := HV.out
              clear hcell HV
              have HA1 : Hid (Below wr.heap.size wr (wr.alloc (.cells #[.int .i64 k, .int .i64 r, .int .i64 a, .int .i64 b, .slice p z.length cap, .int .i64 kk, .int .i64 l, .int .i64 m] 102))) := bel1 _ _
              have HB2 := Lib.hid (HB.out.trans (HA1.out.mono HB.out.size))
              by_cases h1 : r < l
              · have HF := Lib.hid (HEx.out (.inl h1))
                go_wp2
                go_ret
                exact ⟨_, rfl, HF.out, HB2.out⟩
              · by_cases h2 : m < r
                · have HF := Lib.hid (HEx.out (.inr h2))
                  go_wp2
                  go_ret
                  exact ⟨_, rfl, HF.out, HB2.out⟩
                · have HF := Lib.hid (HNx.out (fun e => by rcases e with e | e; (exact h1 e); exact h2 e))
                  go_wp2
                  go_roundg g2
                  case measure => omega
                  case rel => exact ⟨j + 1, by omega, by go_num, HF.out, HB2.out⟩
        | succ g2 =>
          have hjz : (j : Int) < (L.length : Int) := by omega
          have hj : j < L.length := by omega
          have HO := Lib.hid ((HC.out j hj).below hg HB.out)
          have HV := Lib.hid (((HR.out j hj).1.below HB.out).mono HB.out.size)
          have HEx : Hid (L[j].A.k ≠ L[j].k → FaIs L 21) := fun e => .inr ⟨HAll.out, .inl ⟨⟨j, hj, e⟩, rfl⟩⟩
          have HNx : Hid (L[j].A.k = L[j].k → ∀ t (ht : t < L.length), t < j + 1 → L[t].A.k = L[t].k) := fun e t ht h => by
            rcases Nat.lt_succ_iff_lt_or_eq.1 h with h | h
            · exact HKk.out t ht h
            · subst h; exact e
          generalize L[j] = x at HO HV HEx HNx
          obtain ⟨⟨k, r, a, b, z⟩, v, kk, l, m⟩ := x
          simp only at HV HEx HNx
          have x0 := HO.out.c0; have x1 := HO.out.c1; have x2 := HO.out.c2; have x3 := HO.out.c3; have x4 := HO.out.c4; have x5 := HO.out.c5; have x6 := HO.out.c6; have x7 := HO.out.c7
          simp only at x0 x1 x2 x3 x4 x5 x6 x7
          have HV2 := Lib.hid HV.out
          obtain ⟨p, cap, rfl, hcap, hcap2, hcell⟩ := HV.out
          clear hcell HV
          have HA1 : Hid (Below wr.heap.size wr (wr.alloc (.cells #[.int .i64 k, .int .i64 r, .int .i64 a, .int .i64 b, .slice p z.length cap, .int .i64 kk, .int .i64 l, .int .i64 m] 102))) := bel1 _ _
          have HB2 := Lib.hid (HB.out.trans (HA1.out.mono HB.out.size))
          by_cases h1 : k = kk
          · have HF := Lib.hid (HNx.out h1)
            have k1 : (k != kk) = false := by simpa using h1
            clear h1
            go_wp2
            go_roundg g2
            case measure => omega
            case rel => exact ⟨j + 1, by omega, by go_num, HF.out, HB2.out⟩
          · have HF := Lib.hid (HEx.out h1)
            have k1 : (k != kk) = true := by simpa using h1
            clear h1
            go_wp2
            go_ret
            exact ⟨_, rfl, HF.out, HB2.out⟩
    | succ g2 =>
      have hjz : (j : Int) < (L.length : Int) := by omega
      have hj : j < L.length := by omega
      have HO := Lib.hid ((HC.out j hj).below hg HB.out)
      have HV := Lib.hid (((HR.out j hj).1.below HB.out).mono HB.out.size)
      have hz := (HR.out j hj).2
      have HEx : Hid (∀ (E : Int), ck L[j].A = E → E ≠ 0 → FaIs L E) := fun E e n => .inl ⟨j, hj, HCk.out, e, n⟩
      have HNx : Hid (ck L[j].A = 0 → ∀ t (ht : t < L.length), t < j + 1 → ck L[t].A = 0) := fun e t ht h => by
        rcases Nat.lt_succ_iff_lt_or_eq.1 h with h | h
        · exact HCk.out t ht h
        · subst h; exact e
      generalize L[j] = x at HO HV hz HEx HNx
      obtain ⟨⟨k, r, a, b, z⟩, v, kk, l, m⟩ := x
      simp only at HV hz HEx HNx
      have x0 := HO.out.c0; have x1 := HO.out.c1; have x2 := HO.out.c2; have x3 := HO.out.c3; have x4 := HO.out.c4; have x5 := HO.out.c5; have x6 := HO.out.c6; have x7 := HO.out.c7
      simp only at x0 x1 x2 x3 x4 x5 x6 x7
      have HV2 := Lib.hid HV.out
      obtain ⟨p, cap, rfl, hcap, hcap2, hcell⟩ := HV.out
      clear hcell HV
      have HA1 : Hid (Below wr.heap.size wr (wr.alloc (.cells #[.int .i64 k, .int .i64 r, .int .i64 a, .int .i64 b, .slice p z.length cap, .int .i64 kk, .int .i64 l, .int .i64 m] 102))) := bel1 _ _
      have HB2 := Lib.hid (HB.out.trans (HA1.out.mono HB.out.size))
      have HLA := Lib.hid (HW.out.next HB2.out)
      have HRA := Lib.hid (HV2.out.next HA1.out)
      have HC1 := Lib.hid (fun W h1 h2 => HCh.out ⟨k, r, a, b, z⟩ (.slice p z.length cap) W h1 h2 hz)
      obtain ⟨E, hE⟩ : ∃ E, ck ⟨k, r, a, b, z⟩ = E := ⟨_, rfl⟩
      rw [hE] at HC1 HNx HEx
      clear hE hz
      by_cases h0 : E = 0
      · have HN2 := Lib.hid (HNx.out h0)
        subst h0
        go_wp2_with (go_at_call 103; (with_reducible refine (HC1.out _ HLA.out HRA.out).mono ?_); rintro e w' ⟨rfl, hb⟩; have HB3 := Lib.hid (HB2.out.trans (hb.mono HB2.out.size)); clear hb)
        go_roundg g2
        case measure => omega
        case rel => exact ⟨j + 1, by omega, by go_num, HN2.out, HB3.out⟩
      · have HF := Lib.hid (HEx.out E rfl h0)
        have k1 : (E != 0) = true := by simpa using h0
        clear h0
        go_wp2_with (go_at_call 103; (with_reducible refine (HC1.out _ HLA.out HRA.out).mono ?_); rintro e w' ⟨rfl, hb⟩; have HB3 := Lib.hid (HB2.out.trans (hb.mono HB2.out.size)); clear hb)
        go_ret
        exact ⟨_, rfl, HF.out, HB3.out⟩
/-- One operand, laid by the caller. -/
theorem fault1_any (A : Ar) (v : Value) (l m : Int) (W : World) (g : Nat) (hg : W.heap.size = g) (hw : Ru.Lay W) (hv : RdI W.heap.size W v A.z) (hl : A.z.length ≤ 1000000) :
    Calls Tryz.prog 105 #[.slice (some ⟨g, 0, none⟩) 1 1] (W.alloc (.cells #[.int .i64 A.k, .int .i64 A.r, .int .i64 A.a, .int .i64 A.b, v, .int .i64 A.k, .int .i64 l, .int .i64 m] 102)) fun e w' => e = .returned (.int .i64 (oneE A l m)) ∧ Below W.heap.size W w' := by
  subst hg
  have hb := bel1 W (.cells #[.int .i64 A.k, .int .i64 A.r, .int .i64 A.a, .int .i64 A.b, v, .int .i64 A.k, .int .i64 l, .int .i64 m] 102)
  refine (fault_any [⟨A, v, A.k, l, m⟩] W.heap.size _ (hw.next hb) (by simp) (by simp) (fun j hj => ?_) (fun j hj => ?_)).mono fun e w' ⟨E, h1, h2, h3⟩ => ⟨by rw [h1, fa_one rfl h2], hb.trans (h3.mono hb.size)⟩
  all_goals
    obtain rfl : j = 0 := by simp at hj; omega
  · constructor <;> (unfold World.cell?; rw [heap_alloc_last]; rfl)
  · exact ⟨hv.next hb, hl⟩
/-- Two operands. -/
theorem fault2_any (A B : Ar) (v u : Value) (k l m k' l' m' : Int) (W : World) (g : Nat) (hg : W.heap.size = g) (hw : Ru.Lay W) (hv : RdI W.heap.size W v A.z) (hu : RdI W.heap.size W u B.z) (hl : A.z.length ≤ 1000000) (hl' : B.z.length ≤ 1000000) :
    Calls Tryz.prog 105 #[.slice (some ⟨g, 0, none⟩) 2 2] (W.alloc (.cells #[.int .i64 A.k, .int .i64 A.r, .int .i64 A.a, .int .i64 A.b, v, .int .i64 k, .int .i64 l, .int .i64 m, .int .i64 B.k, .int .i64 B.r, .int .i64 B.a, .int .i64 B.b, u, .int .i64 k', .int .i64 l', .int .i64 m'] 102)) fun e w' => e = .returned (.int .i64 (twoE A B k k' l m l' m')) ∧ Below W.heap.size W w' := by
  subst hg
  have hb := bel1 W (.cells #[.int .i64 A.k, .int .i64 A.r, .int .i64 A.a, .int .i64 A.b, v, .int .i64 k, .int .i64 l, .int .i64 m, .int .i64 B.k, .int .i64 B.r, .int .i64 B.a, .int .i64 B.b, u, .int .i64 k', .int .i64 l', .int .i64 m'] 102)
  refine (fault_any [⟨A, v, k, l, m⟩, ⟨B, u, k', l', m'⟩] W.heap.size _ (hw.next hb) (by simp) (by simp) (fun j hj => ?_) (fun j hj => ?_)).mono fun e w' ⟨E, h1, h2, h3⟩ => ⟨by rw [h1, fa_two h2], hb.trans (h3.mono hb.size)⟩
  · have : j = 0 ∨ j = 1 := by simp at hj; omega
    rcases this with rfl | rfl <;> constructor <;> (unfold World.cell?; rw [heap_alloc_last]; rfl)
  · have : j = 0 ∨ j = 1 := by simp at hj; omega
    rcases this with rfl | rfl
    · exact ⟨hv.next hb, hl⟩
    · exact ⟨hu.next hb, hl'⟩
end Go.Proofs.YtpbfbejckhbijaaGreatDoor
namespace Go.Proofs.YtpbfbejckhbijaaGreatDoor
open Go.RowKit

/-- A row of numbers, new from B on. -/
def OwnW (B : Nat) (w : World) (v : Value) (l : List Int) : Prop := ∃ g, v = .slice (some ⟨g, 0, none⟩) l.length l.length ∧ B ≤ g ∧ w.rowIs g 2 l.length (zf l l.length)
def RetWA (A : Ar) (w : World) (e : Ending) (w' : World) : Prop := ∃ u, e = .returned (A5 A.k A.r A.a A.b u) ∧ OwnW w.heap.size w' u A.z ∧ Below w.heap.size w w'
/-- An array with such a row, and an error; with an error nothing. -/
def RetW (A : Ar) (n : Int) (w : World) (e : Ending) (w' : World) : Prop := ∃ u, e = .returned (.tuple #[A5 A.k A.r A.a A.b u, .int .i64 n]) ∧ ((n ≠ 0 ∧ u = .slice none 0 0 ∧ A.z = []) ∨ OwnW w.heap.size w' u A.z) ∧ Below w.heap.size w w'
theorem zf_own {B : Nat} {w : World} {g : Nat} {z : List Int} (h : w.rowIs g 2 z.length (zf z z.length)) (hB : B ≤ g) : OwnW B w (.slice (some ⟨g, 0, none⟩) z.length z.length) z := ⟨g, rfl, hB, h⟩
theorem OwnW.rdn {B : Nat} {w : World} {v : Value} {l : List Int} (h : OwnW B w v l) (hl : l.length ≤ 1000000) : RdN B w v l := by
  obtain ⟨g, rfl, hB, h⟩ := h
  exact zf_new rfl h hl hB
theorem retW_no {w w' : World} {n : Int} (hn : n ≠ 0) (hb : Below w.heap.size w w') : RetW Ar.no n w (.returned (.tuple #[A5 0 0 0 0 (.slice none 0 0), .int .i64 n])) w' := ⟨_, rfl, .inl ⟨hn, rfl, rfl⟩, hb⟩

set_option maxRecDepth 100000 in
set_option maxHeartbeats 4000000 in
theorem filledW_any (k r a b : Int) (v : Value) (z : List Int) (w : World) (hv : RdI w.heap.size w v z) (hl : z.length ≤ 500) :
    Calls Tryz.prog 149 #[.int .i64 k, .int .i64 r, P2 a b, v] w (RetWA ⟨k, r, a, b, z⟩ w) := by
  have HV := Lib.hid hv
  obtain ⟨p, cap, rfl, hcap, hcap2, hcell⟩ := hv
  clear hcell
  obtain ⟨i0, hi, hz0, hz1, hz2⟩ := info_parts info64
  generalize hO : Obj.cells #[Value.int .i64 a, Value.int .i64 b] 40 = O0
  generalize hO' : Obj.cells #[Value.int .i64 0, Value.int .i64 0, Value.int .i64 0, Value.int .i64 0, Value.slice none 0 0] 43 = O1
  have e1 : ((w.alloc O0).alloc O1).heap.size = w.heap.size + 2 := by simp
  have hmk := run_make (P := Tryz.prog) ((w.alloc O0).alloc O1) 41 2 i0 (.int .i64 0) Tryz.underlying41 hi hz0 .i64 .i64 z.length z.length (by omega) (by omega) (by rw [hz2]; omega) (by omega)
  rw [Int.toNat_natCast, hz1, Nat.mul_one, e1] at hmk
  have hr0 : (((w.alloc O0).alloc O1).alloc (.cells (madeCells (Value.int .i64 0).cells z.length) 2)).rowIs (w.heap.size + 2) 2 z.length (zf z 0) := by
    rw [← e1]
    exact (World.rowIs_made ((w.alloc O0).alloc O1) (.int .i64 0) z.length 2).congr fun i _ => by unfold zf; rw [if_neg (by omega)]
  have hb0 := bel1 ((w.alloc O0).alloc O1) (.cells (madeCells (Value.int .i64 0).cells z.length) 2)
  have hb00 : Below w.heap.size w ((w.alloc O0).alloc O1) := (bel1 w O0).trans ((bel1 _ O1).mono (by simp))
  have HA0 : Hid (R2 (((w.alloc O0).alloc O1).alloc (.cells (madeCells (Value.int .i64 0).cells z.length) 2)) w.heap.size a b) := by
    unfold Hid; rw [← hO]; exact ((R2.new w a b).alloc _).alloc _
  have HC0 : Hid (R5 (((w.alloc O0).alloc O1).alloc (.cells (madeCells (Value.int .i64 0).cells z.length) 2)) (w.heap.size + 1) 0 0 0 0 (.slice none 0 0)) := by
    unfold Hid
    have : (w.alloc O0).heap.size = w.heap.size + 1 := by simp
    rw [← hO', ← this]; exact (R5.new _ _ _ _ _ _).alloc _
  have HB0 := Lib.hid (hb00.trans (hb0.mono hb00.size))
  have HR0 := Lib.hid hr0
  clear hr0 hb0 hb00
  generalize hW1 : ((w.alloc O0).alloc O1).alloc (.cells (madeCells (Value.int .i64 0).cells z.length) 2) = W1 at hmk HC0 HA0 HB0 HR0
  clear hW1
  subst hO hO'
  clear e1
  have g0 := HA0.out.c0
  have g1 := HA0.out.c1
  go_enter Tryz.func149, Tryz.ntmps149
  go_wp2
  clear hmk
  go_loopg [17] z.length (fun g i wr => ∃ j : Nat, j + g = z.length ∧ i = .int .i64 j ∧ Below w.heap.size w wr ∧ R2 wr w.heap.size a b ∧ R5 wr (w.heap.size + 1) 0 0 0 0 (.slice none 0 0) ∧ wr.rowIs (w.heap.size + 2) 2 z.length (zf z j))
  case atStart => exact ⟨0, by omega, rfl, HB0.out, HA0.out, HC0.out, HR0.out⟩
  case round =>
    obtain ⟨j, hjg, rfl, hbl, h2, h5, hrow⟩ := hrel
    have x0 := h2.c0; have x1 := h2.c1
    have H2 := Lib.hid h2
    have H5 := Lib.hid h5
    have HRo := Lib.hid hrow
    clear h2 h5 hrow g0 g1
    cases gk with
    | zero =>
      have hjz : ¬ ((j : Int) < (z.length : Int)) := by omega
      have HJ : Hid (j = z.length) := by unfold Hid; omega
      have y0 := H5.out.c0; have y1 := H5.out.c1; have y2 := H5.out.c2; have y3 := H5.out.c3; have y4 := H5.out.c4
      have f0 := H5.out.fr 0; have f1 := H5.out.fr 1; have f2 := H5.out.fr 2; have f3 := H5.out.fr 3; have f4 := H5.out.fr 4
      have HF := Lib.hid (H5.out.set k r a b (.slice (some ⟨w.heap.size + 2, 0, none⟩) z.length z.length))
      have z0 := HF.out.c0; have z1 := HF.out.c1; have z2 := HF.out.c2; have z3 := HF.out.c3; have z4 := HF.out.c4
      go_wp2
      refine bodyPost_ret (v := A5 k r a b (.slice (some ⟨w.heap.size + 2, 0, none⟩) z.length z.length)) (by simp [results, Tryz.results149, go_sem, z0, z1, z2, z3, z4]) rfl ?_
      refine ⟨_, rfl, zf_own ?_ (by omega), st5_below _ _ _ _ _ (by omega) hbl⟩
      have := HRo.out
      rw [HJ.out] at this
      exact this.of_block (st5_other _ _ _ _ _ (by omega))
    | succ g =>
      have hjz : (j : Int) < (z.length : Int) := by omega
      have hj : j < z.length := by omega
      obtain ⟨bk, off, rfl, hbb, hc⟩ := (HV.out.below hbl).cells (by intro e; rw [e] at hj; simp at hj)
      have x2 := hc j hj
      have HG : Hid (z.getD j 0 = z[j]) := by unfold Hid; rw [List.getD_eq_getElem?_getD, List.getElem?_eq_getElem hj]; rfl
      obtain ⟨x, hx⟩ : ∃ x, z[j] = x := ⟨_, rfl⟩
      rw [hx] at x2 HG
      clear hc hx
      have hy : wr.cell? ⟨w.heap.size + 2, j, none⟩ = some (.int .i64 0) := by
        rw [HRo.out.cell hj]; unfold zf; rw [if_neg (by omega)]
      have hyf : wr.frozen? ⟨w.heap.size + 2, j, none⟩ = false := HRo.out.frozen j
      go_wp2
      go_roundg g
      case measure => omega
      case rel => exact ⟨j + 1, by omega, by go_num, hbl.setCell (p := ⟨w.heap.size + 2, j, none⟩) (by show w.heap.size ≤ w.heap.size + 2; omega) _, (blkO _ _ _ _ (by omega)).trans H2.out, (blkO _ _ _ _ (by omega)).trans H5.out, zf_next HRo.out HG.out⟩
set_option maxRecDepth 100000 in
set_option maxHeartbeats 4000000 in
theorem makeW_any (k r a b : Int) (z : List Int) (v : Value) (w : World) (hw : Ru.Lay w) (hv : RdI w.heap.size w v z) (hl : z.length ≤ 1000000) :
    Calls Tryz.prog 107 #[.int .i64 k, .int .i64 r, P2 a b, v] w (RetW (mk ⟨k, r, a, b, z⟩) (ck ⟨k, r, a, b, z⟩) w) := by
  have HC : Hid (∀ W, Ru.Lay W → RdI W.heap.size W v z → Calls Tryz.prog 103 #[A5 k r a b v] W fun e w' => e = .returned (.int .i64 (ck ⟨k, r, a, b, z⟩)) ∧ Below W.heap.size W w') := fun W h1 h2 => acheck_any ⟨k, r, a, b, z⟩ v W h1 h2 hl
  have HK := Lib.hid (KB.new a b hw hv)
  have x0 := HK.out.box.c0; have x1 := HK.out.box.c1
  have HF : Hid (∀ W, z.length ≤ 500 → RdI W.heap.size W v z → Calls Tryz.prog 149 #[.int .i64 k, .int .i64 r, P2 a b, v] W (RetWA ⟨k, r, a, b, z⟩ W)) := fun W h0 h => filledW_any k r a b v z W h h0
  obtain ⟨p, cap, rfl, hcap, hcap2, hcell⟩ := hv
  clear hcell
  by_cases hk : ck ⟨k, r, a, b, z⟩ = 0
  · have hz : z.length ≤ 500 := by have := (ck_good hk).len4; simp at this; omega
    rw [mk_yes hk, hk]
    rw [hk] at HC
    clear hk hw
    go_enter Tryz.func107, Tryz.ntmps107
    go_wp2_with (first
      | (go_at_call 103; refine (HC.out _ HK.out.lay HK.out.rd).mono ?_; rintro e w' ⟨rfl, hb⟩; have HK2 := Lib.hid (HK.out.next hb); clear HK hb x0 x1; have HK := HK2; clear HK2; have x0 := HK.out.box.c0; have x1 := HK.out.box.c1)
      | (go_at_call 149; refine (HF.out _ hz HK.out.rd).mono ?_; rintro e w' ⟨u, rfl, hu, hb⟩; obtain ⟨g, rfl, hBg, hrow⟩ := hu; have HR := Lib.hid (HK.out.res.next hb); have HB := Lib.hid (HK.out.bel.trans (hb.mono HK.out.bel.size)); have hlt := HK.out.res.lt; have HRo := Lib.hid hrow; have HGl := Lib.hid hrow.lt; clear HK hrow x0 x1; have y0 := HR.out.c0; have y1 := HR.out.c1; have y2 := HR.out.c2; have y3 := HR.out.c3; have y4 := HR.out.c4; have f0 := HR.out.fr 0; have f1 := HR.out.fr 1; have f2 := HR.out.fr 2; have f3 := HR.out.fr 3; have f4 := HR.out.fr 4; have HS := Lib.hid (HR.out.set k r a b (.slice (some ⟨g, 0, none⟩) z.length z.length)); have z0 := HS.out.c0; have z1 := HS.out.c1; have z2 := HS.out.c2; have z3 := HS.out.c3; have z4 := HS.out.c4))
    refine bodyPost_ret (v := .tuple #[A5 k r a b (.slice (some ⟨g, 0, none⟩) z.length z.length), .int .i64 0]) (by simp [results, Tryz.results107, go_sem, z0, z1, z2, z3, z4]) rfl ?_
    exact ⟨_, rfl, .inr ⟨g, rfl, by omega, HRo.out.of_block (st5_other _ _ _ _ _ (by omega))⟩, st5_below _ _ _ _ _ (by omega) HB.out⟩
  · rw [mk_no hk]
    obtain ⟨E, hE⟩ : ∃ E, ck ⟨k, r, a, b, z⟩ = E := ⟨_, rfl⟩
    rw [hE] at hk HC ⊢
    have k1 : (E != 0) = true := by simpa using hk
    have HNz := Lib.hid hk
    clear hk hE
    go_enter Tryz.func107, Tryz.ntmps107
    go_wp2_with (first
      | (go_at_call 103; refine (HC.out _ HK.out.lay HK.out.rd).mono ?_; rintro e w' ⟨rfl, hb⟩; have HK2 := Lib.hid (HK.out.next hb); clear HK hb x0 x1; have HK := HK2; clear HK2; have y0 := HK.out.res.c0; have y1 := HK.out.res.c1; have y2 := HK.out.res.c2; have y3 := HK.out.res.c3; have y4 := HK.out.res.c4; have f0 := HK.out.res.fr 0; have f1 := HK.out.res.fr 1; have f2 := HK.out.res.fr 2; have f3 := HK.out.res.fr 3; have f4 := HK.out.res.fr 4; have HS := Lib.hid (HK.out.res.set 0 0 0 0 (.slice none 0 0)); have z0 := HS.out.c0; have z1 := HS.out.c1; have z2 := HS.out.c2; have z3 := HS.out.c3; have z4 := HS.out.c4))
    exact bodyPost_ret (v := .tuple #[A5 0 0 0 0 (.slice none 0 0), .int .i64 E]) (by simp [results, Tryz.results107, go_sem, z0, z1, z2, z3, z4]) rfl (retW_no HNz.out (st5_below _ _ _ _ _ (by omega) HK.out.bel))

end Go.Proofs.YtpbfbejckhbijaaGreatDoor
namespace Go.Proofs.YtpbfbejckhbijaaGreatDoor
open Go.RowKit

theorem RetW.toE {A : Ar} {n : Int} {w w' : World} {e : Ending} (hl : A.z.length ≤ 1000000) (h : RetW A n w e w') : RetE A n w e w' := by
  obtain ⟨u, h1, h2, h3⟩ := h
  refine ⟨u, h1, ?_, h3⟩
  rcases h2 with ⟨_, rfl, hz⟩ | h2
  · rw [hz]; exact RdN.nil _ _
  · exact h2.rdn hl
/-- What a walk keeps: the result's block, a slice. -/
structure KM (w : World) (v : Value) (z : List Int) (w' : World) : Prop where
  bel : Below w.heap.size w w'
  res : R5 w' w.heap.size 0 0 0 0 (.slice none 0 0)
  rd : RdI w'.heap.size w' v z
  lay : Ru.Lay w'
theorem KM.new {w : World} {v : Value} {z : List Int} (hw : Ru.Lay w) (hv : RdI w.heap.size w v z) : KM w v z (w.alloc (.cells #[.int .i64 0, .int .i64 0, .int .i64 0, .int .i64 0, .slice none 0 0] 43)) := ⟨bel1 _ _, R5.new _ _ _ _ _ _, hv.next (bel1 _ _), hw.alloc _⟩

set_option maxRecDepth 100000 in
set_option maxHeartbeats 4000000 in
theorem mvector_any (k : Int) (z : List Int) (v : Value) (w : World) (hw : Ru.Lay w) (hv : RdI w.heap.size w v z) (hl : z.length ≤ 1000000) :
    Calls Tryz.prog 106 #[.int .i64 k, v] w (RetE (mk (vecA k z)) (ck (vecA k z)) w) := by
  have HM : Hid (∀ W, Ru.Lay W → RdI W.heap.size W v z → Calls Tryz.prog 107 #[.int .i64 k, .int .i64 1, P2 (z.length : Int) 0, v] W (RetE (mk (vecA k z)) (ck (vecA k z)) W)) := fun W h1 h2 => make_any k 1 z.length 0 z v W h1 h2 hl
  have HK := Lib.hid (KM.new hw hv)
  generalize mk (vecA k z) = M at HM ⊢
  generalize ck (vecA k z) = E at HM ⊢
  obtain ⟨a1, a2, a3, a4, a5⟩ := M
  obtain ⟨p, cap, rfl, hcap, hcap2, hcell⟩ := hv
  clear hcell hw
  go_enter Tryz.func106, Tryz.ntmps106
  go_wp2_with (go_at_call 107; (with_reducible refine (HM.out _ HK.out.lay HK.out.rd).mono ?_); rintro e w1 ⟨u, rfl, hu, hb⟩; obtain ⟨q, qc, rfl, hqc, hqd⟩ := hu.form; have HU := Lib.hid hu; have HB := Lib.hid (HK.out.bel.trans (hb.mono HK.out.bel.size)); have HR := Lib.hid (HK.out.res.next hb); have hlt := HK.out.res.lt; clear hu; have y0 := HR.out.c0; have y1 := HR.out.c1; have y2 := HR.out.c2; have y3 := HR.out.c3; have y4 := HR.out.c4; have f0 := HR.out.fr 0; have f1 := HR.out.fr 1; have f2 := HR.out.fr 2; have f3 := HR.out.fr 3; have f4 := HR.out.fr 4; have HS := Lib.hid (HR.out.set a1 a2 a3 a4 (.slice q a5.length qc)); have z0 := HS.out.c0; have z1 := HS.out.c1; have z2 := HS.out.c2; have z3 := HS.out.c3; have z4 := HS.out.c4)
  refine bodyPost_ret (v := .tuple #[A5 a1 a2 a3 a4 (.slice q a5.length qc), .int .i64 E]) (by simp [results, Tryz.results106, go_sem, z0, z1, z2, z3, z4]) rfl ?_
  exact ⟨_, rfl, (HU.out.st5 hlt _ _ _ _ _).mono (by omega), st5_below _ _ _ _ _ (by omega) HB.out⟩

/-- What the region of blank keeps. -/
structure KL (w : World) (a b : Int) (w' : World) : Prop where
  bel : Below w.heap.size w w'
  box : R2 w' w.heap.size a b
  sz : w.heap.size + 1 < w'.heap.size
theorem KL.next {w W W' : World} {a b : Int} (h : KL w a b W) (hb : Below (w.heap.size + 1) W W') : KL w a b W' :=
  ⟨h.bel.trans (hb.mono (by omega)), (hb.block _ (by omega)).trans h.box, Nat.lt_of_lt_of_le h.sz hb.size⟩
abbrev KL2 (w : World) (a b : Int) (W : World) : Prop := KL w a b W ∧ W.cell? ⟨w.heap.size, 0, none⟩ = some (.int .i64 a) ∧ W.cell? ⟨w.heap.size, 1, none⟩ = some (.int .i64 b)
theorem KL.all {w W : World} {a b : Int} (h : KL w a b W) : KL2 w a b W := ⟨h, h.box.c0, h.box.c1⟩
/-- The world of blank, as its call begins. -/
theorem KL.new (w : World) (a b : Int) : KL w a b ((w.alloc (.cells #[.int .i64 a, .int .i64 b] 40)).alloc (.cells #[.int .i64 0, .int .i64 0, .int .i64 0, .int .i64 0, .slice none 0 0] 43)) :=
  ⟨(bel1 _ _).trans ((bel1 _ _).mono (by simp)), (R2.new w a b).alloc _, by simp⟩
theorem res_new (w : World) (a b : Int) : R5 ((w.alloc (.cells #[.int .i64 a, .int .i64 b] 40)).alloc (.cells #[.int .i64 0, .int .i64 0, .int .i64 0, .int .i64 0, .slice none 0 0] 43)) (w.heap.size + 1) 0 0 0 0 (.slice none 0 0) := by
  have : (w.alloc (.cells #[.int .i64 a, .int .i64 b] 40)).heap.size = w.heap.size + 1 := by simp
  rw [← this]; exact R5.new _ _ _ _ _ _
theorem made_zeros (n : Nat) (W : World) (hn : n ≤ 1000000) : RdI (W.alloc (.cells (madeCells (Value.int .i64 0).cells n) 2)).heap.size (W.alloc (.cells (madeCells (Value.int .i64 0).cells n) 2)) (.slice (some ⟨W.heap.size, 0, none⟩) n n) (List.replicate n 0) := by
  refine zf_all (by simp) ((made_row n W).congr fun i hi => ?_) hn
  unfold zf
  rw [if_pos hi, List.getD_eq_getElem?_getD, List.getElem?_replicate]
  simp [hi]

set_option maxRecDepth 100000 in
set_option maxHeartbeats 8000000 in
theorem blank_any (k r a b : Int) (n : Nat) (w : World) (hw : Ru.Lay w) (hn : (if r = 2 then a * b else a) = (n : Int)) (hl : n ≤ 1000000) :
    Calls Tryz.prog 110 #[.int .i64 k, .int .i64 r, P2 a b] w (RetW (mk ⟨k, r, a, b, List.replicate n 0⟩) (ck ⟨k, r, a, b, List.replicate n 0⟩) w) := by
  have HM : Hid (∀ W v, Ru.Lay W → RdI W.heap.size W v (List.replicate n 0) → Calls Tryz.prog 107 #[.int .i64 k, .int .i64 r, P2 a b, v] W (RetW (mk ⟨k, r, a, b, List.replicate n 0⟩) (ck ⟨k, r, a, b, List.replicate n 0⟩) W)) := fun W v h1 h2 => makeW_any k r a b _ v W h1 h2 (by simpa using hl)
  have HK := Lib.hid (KL.new w a b)
  have HR := Lib.hid (res_new w a b)
  have HL := Lib.hid ((hw.alloc (.cells #[.int .i64 a, .int .i64 b] 40)).alloc (.cells #[.int .i64 0, .int .i64 0, .int .i64 0, .int .i64 0, .slice none 0 0] 43))
  generalize mk ⟨k, r, a, b, List.replicate n 0⟩ = M at HM ⊢
  generalize ck ⟨k, r, a, b, List.replicate n 0⟩ = E at HM ⊢
  obtain ⟨a1, a2, a3, a4, a5⟩ := M
  have HMd := Lib.hid (fun W => made_zeros n W hl)
  obtain ⟨i0, hi, hz0, hz1, hz2⟩ := info_parts info64
  have hmk := fun W : World => run_make (P := Tryz.prog) W 41 2 i0 (.int .i64 0) Tryz.underlying41 hi hz0 .i64 .i64 n n (by omega) (by omega) (by rw [hz2]; omega) (by omega)
  rw [Int.toNat_natCast, hz1, Nat.mul_one] at hmk
  have x0 := HK.out.box.c0; have x1 := HK.out.box.c1
  clear hw
  by_cases h2 : r = 2
  · rw [if_pos h2] at hn
    have h2b : (r == 2) = true := by simpa using h2
    have hw2 : IntKind.i64.wrap (a * b) = (n : Int) := by rw [hn, IntKind.wrap_i64]; omega
    clear h2 hn
    go_enter Tryz.func110, Tryz.ntmps110
    go_wp2_with fail
    generalize hW : (w.alloc (.cells #[.int .i64 a, .int .i64 b] 40)).alloc (.cells #[.int .i64 0, .int .i64 0, .int .i64 0, .int .i64 0, .slice none 0 0] 43) = W0 at HK HR HL x0 x1 ⊢
    clear hW
    have HSz : Hid (w.heap.size + 1 < W0.heap.size) := HK.out.sz
    refine wp_region_held_drew (S := KL2 w a b) (by kernel_rfl) ?_ (fun hHeld => ?_)
    · exact KL.all (HK.out.next (Below.refl _ _).drew)
    have HRd : Hid (R5 (World.drew W0) (w.heap.size + 1) 0 0 0 0 (.slice none 0 0)) := HR.out.next (Below.refl _ _).drew
    have HLd : Hid (Ru.Lay (World.drew W0)) := HL.out.next (Below.refl _ _).drew
    have HSd : Hid (w.heap.size + 1 < (World.drew W0).heap.size) := HSz.out
    generalize World.drew W0 = wd at hHeld HRd HLd HSd ⊢
    clear HK HR HL x0 x1
    have hmk1 := hmk wd
    have HB1 := Lib.hid hHeld.1.bel
    have HBm := Lib.hid (HB1.out.trans ((bel1 wd (.cells (madeCells (Value.int .i64 0).cells n) 2)).mono HB1.out.size))
    have HRm := Lib.hid (HRd.out.next (bel1 wd (.cells (madeCells (Value.int .i64 0).cells n) 2)))
    have HLm := Lib.hid (HLd.out.next (bel1 wd (.cells (madeCells (Value.int .i64 0).cells n) 2)))
    refine wpAnyH_take (i := 0) (v := ?_) rfl (by kernel_rfl) (by kernel_rfl) (by kernel_rfl) (fun _ _ _ h => h) (Or.inl ⟨by rfl, ?_⟩) (by assumption) ?_
    rotate_left
    · ((intro w0 hSw); (try dsimp only at hSw); go_simp; (try with_reducible rfl))
    change wpAnyH _ _ _ _ _ _ _ (Act.put _ (some 17) _) _
    try simp only [Act.put, List.setIfInBounds_toArray, List.set_cons_zero, List.set_cons_succ]
    refine wpAnyH_take (i := 1) (v := ?_) rfl (by kernel_rfl) (by kernel_rfl) (by kernel_rfl) (fun _ _ _ h => h) (Or.inl ⟨by rfl, ?_⟩) (by assumption) ?_
    rotate_left
    · ((intro w0 hSw); (try dsimp only at hSw); go_simp; (try with_reducible rfl))
    change wpAnyH _ _ _ _ _ _ _ (Act.put _ (some 18) _) _
    try simp only [Act.put, List.setIfInBounds_toArray, List.set_cons_zero, List.set_cons_succ]
    refine wpAnyH_take (i := 2) (v := ?_) rfl (by kernel_rfl) (by kernel_rfl) (by kernel_rfl) (fun _ _ _ h => h) (Or.inl ⟨by rfl, ?_⟩) (by assumption) ?_
    rotate_left
    · ((intro w0 hSw); (try dsimp only at hSw); go_simp; (try with_reducible rfl))
    change wpAnyH _ _ _ _ _ _ _ (Act.put _ (some 19) _) _
    try simp only [Act.put, List.setIfInBounds_toArray, List.set_cons_zero, List.set_cons_succ]
    refine wpAnyH_take (i := 3) (v := ?_) rfl (by kernel_rfl) (by kernel_rfl) (by kernel_rfl) (fun _ _ _ h => h) (Or.inl ⟨by rfl, ?_⟩) (by assumption) ?_
    rotate_left
    · ((intro w0 hSw); (try dsimp only at hSw); go_simp; (try with_reducible rfl))
    change wpAnyH _ _ _ _ _ _ _ (Act.put _ (some 20) _) _
    try simp only [Act.put, List.setIfInBounds_toArray, List.set_cons_zero, List.set_cons_succ]
    refine wpAnyH_ready (rs := [4]) (by kernel_rfl) (by simp) ?_
    refine AllReadyH.cons rfl (fun K hK => ?_) (AllReadyH.nil)
    go_simp
    refine hK.out _ _ ?_ (fun hHeld2 => ?_)
    · exact (KL.next hHeld.1 ((bel1 wd _).mono (by have := hHeld.1.sz; omega))).all
    clear hK K hHeld
    have hHeld := hHeld2; clear hHeld2
    try change wpAnyH _ _ _ _ _ _ _ (Act.put _ (some 21) _) _
    try simp only [Act.put, List.setIfInBounds_toArray, List.set_cons_zero, List.set_cons_succ]
    refine wpAnyH_ready (rs := [5]) (by kernel_rfl) (by simp) ?_
    refine AllReadyH.cons rfl (fun K hK => ?_) (AllReadyH.nil)
    go_simp
    go_at_call 107
    refine (HM.out _ _ HLm.out (HMd.out _)).mono ?_
    rintro e w1 ⟨u, rfl, hu, hb⟩
    have hbl : Below (w.heap.size + 1) (wd.alloc (.cells (madeCells (Value.int .i64 0).cells n) 2)) w1 := hb.mono (by simp; have := HSd.out; omega)
    have HR2 := Lib.hid (HRm.out.next hb)
    have HB2 := Lib.hid (HBm.out.trans (hb.mono HBm.out.size))
    refine hK.out _ _ ?_ (fun hHeld2 => ?_)
    · exact (KL.next hHeld.1 hbl).all
    clear hK K hHeld
    have hHeld := hHeld2; clear hHeld2
    try change wpAnyH _ _ _ _ _ _ _ (Act.put _ (some 22) _) _
    try dsimp only
    try simp only [Act.put, List.setIfInBounds_toArray, List.set_cons_zero, List.set_cons_succ]
    refine wpAnyH_take (i := 6) (v := ?_) rfl (by kernel_rfl) (by kernel_rfl) (by kernel_rfl) (fun _ _ _ h => h) (Or.inl ⟨by rfl, ?_⟩) (by assumption) ?_
    rotate_left
    · ((intro w0 hSw); (try dsimp only at hSw); go_simp; (try with_reducible rfl))
    change wpAnyH _ _ _ _ _ _ _ (Act.put _ (some 23) _) _
    try simp only [Act.put, List.setIfInBounds_toArray, List.set_cons_zero, List.set_cons_succ]
    refine wpAnyH_take (i := 7) (v := ?_) rfl (by kernel_rfl) (by kernel_rfl) (by kernel_rfl) (fun _ _ _ h => h) (Or.inl ⟨by rfl, ?_⟩) (by assumption) ?_
    rotate_left
    · ((intro w0 hSw); (try dsimp only at hSw); go_simp; (try with_reducible rfl))
    change wpAnyH _ _ _ _ _ _ _ (Act.put _ (some 24) _) _
    try simp only [Act.put, List.setIfInBounds_toArray, List.set_cons_zero, List.set_cons_succ]
    rcases hu with ⟨hne, rfl, hz⟩ | ⟨g, rfl, hBg, hrow⟩
    · have HZ := Lib.hid (And.intro hne hz)
      clear hz hne
      refine wpAnyH_ready (rs := [8]) (by kernel_rfl) (by simp) ?_
      refine AllReadyH.cons rfl (fun K hK => ?_) (AllReadyH.nil)
      have y0 := HR2.out.c0; have y1 := HR2.out.c1; have y2 := HR2.out.c2; have y3 := HR2.out.c3; have y4 := HR2.out.c4; have f0 := HR2.out.fr 0; have f1 := HR2.out.fr 1; have f2 := HR2.out.fr 2; have f3 := HR2.out.fr 3; have f4 := HR2.out.fr 4; have HS := Lib.hid (HR2.out.set a1 a2 a3 a4 (.slice none 0 0)); have z0 := HS.out.c0; have z1 := HS.out.c1; have z2 := HS.out.c2; have z3 := HS.out.c3; have z4 := HS.out.c4
      go_simp
      refine hK.out _ _ ?_ (fun hHeld2 => ?_)
      · exact (KL.next hHeld.1 (st5_below _ _ _ _ _ (Nat.le_refl _) (Below.refl _ _))).all
      clear hK K hHeld
      have hHeld := hHeld2; clear hHeld2
      try change wpAnyH _ _ _ _ _ _ _ (Act.put _ (none) _) _
      try simp only [Act.put, List.setIfInBounds_toArray, List.set_cons_zero, List.set_cons_succ]
      refine wpAnyH_take (i := 9) (v := ?_) rfl (by kernel_rfl) (by kernel_rfl) (by kernel_rfl) (fun _ _ _ h => h) (Or.inl ⟨by rfl, ?_⟩) (by assumption) ?_
      rotate_left
      · ((intro w0 hSw); (try dsimp only at hSw); go_simp; (try with_reducible rfl))
      change wpAnyH _ _ _ _ _ _ _ (Act.put _ (some 7) _) _
      try simp only [Act.put, List.setIfInBounds_toArray, List.set_cons_zero, List.set_cons_succ]
      refine wpAnyH_done (by kernel_rfl) ?_ _
      go_wp2_with fail
      refine bodyPost_ret (v := .tuple #[A5 a1 a2 a3 a4 (.slice none 0 0), .int .i64 E]) (by simp [results, Tryz.results110, go_sem, z0, z1, z2, z3, z4]) rfl ?_
      exact ⟨_, rfl, .inl ⟨HZ.out.1, rfl, HZ.out.2⟩, st5_below _ _ _ _ _ (by omega) HB2.out⟩
    · have HRo := Lib.hid hrow
      have HBs : Hid (w.heap.size + 1 < g) := by have := HSd.out; simp at hBg; unfold Hid; omega
      clear hBg hrow
      refine wpAnyH_ready (rs := [8]) (by kernel_rfl) (by simp) ?_
      refine AllReadyH.cons rfl (fun K hK => ?_) (AllReadyH.nil)
      have y0 := HR2.out.c0; have y1 := HR2.out.c1; have y2 := HR2.out.c2; have y3 := HR2.out.c3; have y4 := HR2.out.c4; have f0 := HR2.out.fr 0; have f1 := HR2.out.fr 1; have f2 := HR2.out.fr 2; have f3 := HR2.out.fr 3; have f4 := HR2.out.fr 4; have HS := Lib.hid (HR2.out.set a1 a2 a3 a4 (.slice (some ⟨g, 0, none⟩) a5.length a5.length)); have z0 := HS.out.c0; have z1 := HS.out.c1; have z2 := HS.out.c2; have z3 := HS.out.c3; have z4 := HS.out.c4
      go_simp
      refine hK.out _ _ ?_ (fun hHeld2 => ?_)
      · exact (KL.next hHeld.1 (st5_below _ _ _ _ _ (Nat.le_refl _) (Below.refl _ _))).all
      clear hK K hHeld
      have hHeld := hHeld2; clear hHeld2
      try change wpAnyH _ _ _ _ _ _ _ (Act.put _ (none) _) _
      try simp only [Act.put, List.setIfInBounds_toArray, List.set_cons_zero, List.set_cons_succ]
      refine wpAnyH_take (i := 9) (v := ?_) rfl (by kernel_rfl) (by kernel_rfl) (by kernel_rfl) (fun _ _ _ h => h) (Or.inl ⟨by rfl, ?_⟩) (by assumption) ?_
      rotate_left
      · ((intro w0 hSw); (try dsimp only at hSw); go_simp; (try with_reducible rfl))
      change wpAnyH _ _ _ _ _ _ _ (Act.put _ (some 7) _) _
      try simp only [Act.put, List.setIfInBounds_toArray, List.set_cons_zero, List.set_cons_succ]
      refine wpAnyH_done (by kernel_rfl) ?_ _
      go_wp2_with fail
      refine bodyPost_ret (v := .tuple #[A5 a1 a2 a3 a4 (.slice (some ⟨g, 0, none⟩) a5.length a5.length), .int .i64 E]) (by simp [results, Tryz.results110, go_sem, z0, z1, z2, z3, z4]) rfl ?_
      exact ⟨_, rfl, .inr ⟨g, rfl, by have := HBs.out; omega, HRo.out.of_block (st5_other _ _ _ _ _ (by have := HBs.out; omega))⟩, st5_below _ _ _ _ _ (by omega) HB2.out⟩
  · rw [if_neg h2] at hn
    have h2b : (r == 2) = false := by simpa using h2
    rw [← hn] at hmk
    clear h2 hn
    go_enter Tryz.func110, Tryz.ntmps110
    go_wp2_with fail
    generalize hW : (w.alloc (.cells #[.int .i64 a, .int .i64 b] 40)).alloc (.cells #[.int .i64 0, .int .i64 0, .int .i64 0, .int .i64 0, .slice none 0 0] 43) = W0 at HK HR HL x0 x1 ⊢
    clear hW
    have HSz : Hid (w.heap.size + 1 < W0.heap.size) := HK.out.sz
    refine wp_region_held_drew (S := KL2 w a b) (by kernel_rfl) ?_ (fun hHeld => ?_)
    · exact KL.all (HK.out.next (Below.refl _ _).drew)
    have HRd : Hid (R5 (World.drew W0) (w.heap.size + 1) 0 0 0 0 (.slice none 0 0)) := HR.out.next (Below.refl _ _).drew
    have HLd : Hid (Ru.Lay (World.drew W0)) := HL.out.next (Below.refl _ _).drew
    have HSd : Hid (w.heap.size + 1 < (World.drew W0).heap.size) := HSz.out
    generalize World.drew W0 = wd at hHeld HRd HLd HSd ⊢
    clear HK HR HL x0 x1
    have hmk1 := hmk wd
    have HB1 := Lib.hid hHeld.1.bel
    have HBm := Lib.hid (HB1.out.trans ((bel1 wd (.cells (madeCells (Value.int .i64 0).cells n) 2)).mono HB1.out.size))
    have HRm := Lib.hid (HRd.out.next (bel1 wd (.cells (madeCells (Value.int .i64 0).cells n) 2)))
    have HLm := Lib.hid (HLd.out.next (bel1 wd (.cells (madeCells (Value.int .i64 0).cells n) 2)))
    refine wpAnyH_take (i := 0) (v := ?_) rfl (by kernel_rfl) (by kernel_rfl) (by kernel_rfl) (fun _ _ _ h => h) (Or.inl ⟨by rfl, ?_⟩) (by assumption) ?_
    rotate_left
    · ((intro w0 hSw); (try dsimp only at hSw); go_simp; (try with_reducible rfl))
    change wpAnyH _ _ _ _ _ _ _ (Act.put _ (some 17) _) _
    try simp only [Act.put, List.setIfInBounds_toArray, List.set_cons_zero, List.set_cons_succ]
    refine wpAnyH_take (i := 1) (v := ?_) rfl (by kernel_rfl) (by kernel_rfl) (by kernel_rfl) (fun _ _ _ h => h) (Or.inl ⟨by rfl, ?_⟩) (by assumption) ?_
    rotate_left
    · ((intro w0 hSw); (try dsimp only at hSw); go_simp; (try with_reducible rfl))
    change wpAnyH _ _ _ _ _ _ _ (Act.put _ (some 18) _) _
    try simp only [Act.put, List.setIfInBounds_toArray, List.set_cons_zero, List.set_cons_succ]
    refine wpAnyH_take (i := 2) (v := ?_) rfl (by kernel_rfl) (by kernel_rfl) (by kernel_rfl) (fun _ _ _ h => h) (Or.inl ⟨by rfl, ?_⟩) (by assumption) ?_
    rotate_left
    · ((intro w0 hSw); (try dsimp only at hSw); go_simp; (try with_reducible rfl))
    change wpAnyH _ _ _ _ _ _ _ (Act.put _ (some 19) _) _
    try simp only [Act.put, List.setIfInBounds_toArray, List.set_cons_zero, List.set_cons_succ]
    refine wpAnyH_take (i := 3) (v := ?_) rfl (by kernel_rfl) (by kernel_rfl) (by kernel_rfl) (fun _ _ _ h => h) (Or.inl ⟨by rfl, ?_⟩) (by assumption) ?_
    rotate_left
    · ((intro w0 hSw); (try dsimp only at hSw); go_simp; (try with_reducible rfl))
    change wpAnyH _ _ _ _ _ _ _ (Act.put _ (some 20) _) _
    try simp only [Act.put, List.setIfInBounds_toArray, List.set_cons_zero, List.set_cons_succ]
    refine wpAnyH_ready (rs := [4]) (by kernel_rfl) (by simp) ?_
    refine AllReadyH.cons rfl (fun K hK => ?_) (AllReadyH.nil)
    go_simp
    refine hK.out _ _ ?_ (fun hHeld2 => ?_)
    · exact (KL.next hHeld.1 ((bel1 wd _).mono (by have := hHeld.1.sz; omega))).all
    clear hK K hHeld
    have hHeld := hHeld2; clear hHeld2
    try change wpAnyH _ _ _ _ _ _ _ (Act.put _ (some 21) _) _
    try simp only [Act.put, List.setIfInBounds_toArray, List.set_cons_zero, List.set_cons_succ]
    refine wpAnyH_ready (rs := [5]) (by kernel_rfl) (by simp) ?_
    refine AllReadyH.cons rfl (fun K hK => ?_) (AllReadyH.nil)
    go_simp
    go_at_call 107
    refine (HM.out _ _ HLm.out (HMd.out _)).mono ?_
    rintro e w1 ⟨u, rfl, hu, hb⟩
    have hbl : Below (w.heap.size + 1) (wd.alloc (.cells (madeCells (Value.int .i64 0).cells n) 2)) w1 := hb.mono (by simp; have := HSd.out; omega)
    have HR2 := Lib.hid (HRm.out.next hb)
    have HB2 := Lib.hid (HBm.out.trans (hb.mono HBm.out.size))
    refine hK.out _ _ ?_ (fun hHeld2 => ?_)
    · exact (KL.next hHeld.1 hbl).all
    clear hK K hHeld
    have hHeld := hHeld2; clear hHeld2
    try change wpAnyH _ _ _ _ _ _ _ (Act.put _ (some 22) _) _
    try dsimp only
    try simp only [Act.put, List.setIfInBounds_toArray, List.set_cons_zero, List.set_cons_succ]
    refine wpAnyH_take (i := 6) (v := ?_) rfl (by kernel_rfl) (by kernel_rfl) (by kernel_rfl) (fun _ _ _ h => h) (Or.inl ⟨by rfl, ?_⟩) (by assumption) ?_
    rotate_left
    · ((intro w0 hSw); (try dsimp only at hSw); go_simp; (try with_reducible rfl))
    change wpAnyH _ _ _ _ _ _ _ (Act.put _ (some 23) _) _
    try simp only [Act.put, List.setIfInBounds_toArray, List.set_cons_zero, List.set_cons_succ]
    refine wpAnyH_take (i := 7) (v := ?_) rfl (by kernel_rfl) (by kernel_rfl) (by kernel_rfl) (fun _ _ _ h => h) (Or.inl ⟨by rfl, ?_⟩) (by assumption) ?_
    rotate_left
    · ((intro w0 hSw); (try dsimp only at hSw); go_simp; (try with_reducible rfl))
    change wpAnyH _ _ _ _ _ _ _ (Act.put _ (some 24) _) _
    try simp only [Act.put, List.setIfInBounds_toArray, List.set_cons_zero, List.set_cons_succ]
    rcases hu with ⟨hne, rfl, hz⟩ | ⟨g, rfl, hBg, hrow⟩
    · have HZ := Lib.hid (And.intro hne hz)
      clear hz hne
      refine wpAnyH_ready (rs := [8]) (by kernel_rfl) (by simp) ?_
      refine AllReadyH.cons rfl (fun K hK => ?_) (AllReadyH.nil)
      have y0 := HR2.out.c0; have y1 := HR2.out.c1; have y2 := HR2.out.c2; have y3 := HR2.out.c3; have y4 := HR2.out.c4; have f0 := HR2.out.fr 0; have f1 := HR2.out.fr 1; have f2 := HR2.out.fr 2; have f3 := HR2.out.fr 3; have f4 := HR2.out.fr 4; have HS := Lib.hid (HR2.out.set a1 a2 a3 a4 (.slice none 0 0)); have z0 := HS.out.c0; have z1 := HS.out.c1; have z2 := HS.out.c2; have z3 := HS.out.c3; have z4 := HS.out.c4
      go_simp
      refine hK.out _ _ ?_ (fun hHeld2 => ?_)
      · exact (KL.next hHeld.1 (st5_below _ _ _ _ _ (Nat.le_refl _) (Below.refl _ _))).all
      clear hK K hHeld
      have hHeld := hHeld2; clear hHeld2
      try change wpAnyH _ _ _ _ _ _ _ (Act.put _ (none) _) _
      try simp only [Act.put, List.setIfInBounds_toArray, List.set_cons_zero, List.set_cons_succ]
      refine wpAnyH_take (i := 9) (v := ?_) rfl (by kernel_rfl) (by kernel_rfl) (by kernel_rfl) (fun _ _ _ h => h) (Or.inl ⟨by rfl, ?_⟩) (by assumption) ?_
      rotate_left
      · ((intro w0 hSw); (try dsimp only at hSw); go_simp; (try with_reducible rfl))
      change wpAnyH _ _ _ _ _ _ _ (Act.put _ (some 7) _) _
      try simp only [Act.put, List.setIfInBounds_toArray, List.set_cons_zero, List.set_cons_succ]
      refine wpAnyH_done (by kernel_rfl) ?_ _
      go_wp2_with fail
      refine bodyPost_ret (v := .tuple #[A5 a1 a2 a3 a4 (.slice none 0 0), .int .i64 E]) (by simp [results, Tryz.results110, go_sem, z0, z1, z2, z3, z4]) rfl ?_
      exact ⟨_, rfl, .inl ⟨HZ.out.1, rfl, HZ.out.2⟩, st5_below _ _ _ _ _ (by omega) HB2.out⟩
    · have HRo := Lib.hid hrow
      have HBs : Hid (w.heap.size + 1 < g) := by have := HSd.out; simp at hBg; unfold Hid; omega
      clear hBg hrow
      refine wpAnyH_ready (rs := [8]) (by kernel_rfl) (by simp) ?_
      refine AllReadyH.cons rfl (fun K hK => ?_) (AllReadyH.nil)
      have y0 := HR2.out.c0; have y1 := HR2.out.c1; have y2 := HR2.out.c2; have y3 := HR2.out.c3; have y4 := HR2.out.c4; have f0 := HR2.out.fr 0; have f1 := HR2.out.fr 1; have f2 := HR2.out.fr 2; have f3 := HR2.out.fr 3; have f4 := HR2.out.fr 4; have HS := Lib.hid (HR2.out.set a1 a2 a3 a4 (.slice (some ⟨g, 0, none⟩) a5.length a5.length)); have z0 := HS.out.c0; have z1 := HS.out.c1; have z2 := HS.out.c2; have z3 := HS.out.c3; have z4 := HS.out.c4
      go_simp
      refine hK.out _ _ ?_ (fun hHeld2 => ?_)
      · exact (KL.next hHeld.1 (st5_below _ _ _ _ _ (Nat.le_refl _) (Below.refl _ _))).all
      clear hK K hHeld
      have hHeld := hHeld2; clear hHeld2
      try change wpAnyH _ _ _ _ _ _ _ (Act.put _ (none) _) _
      try simp only [Act.put, List.setIfInBounds_toArray, List.set_cons_zero, List.set_cons_succ]
      refine wpAnyH_take (i := 9) (v := ?_) rfl (by kernel_rfl) (by kernel_rfl) (by kernel_rfl) (fun _ _ _ h => h) (Or.inl ⟨by rfl, ?_⟩) (by assumption) ?_
      rotate_left
      · ((intro w0 hSw); (try dsimp only at hSw); go_simp; (try with_reducible rfl))
      change wpAnyH _ _ _ _ _ _ _ (Act.put _ (some 7) _) _
      try simp only [Act.put, List.setIfInBounds_toArray, List.set_cons_zero, List.set_cons_succ]
      refine wpAnyH_done (by kernel_rfl) ?_ _
      go_wp2_with fail
      refine bodyPost_ret (v := .tuple #[A5 a1 a2 a3 a4 (.slice (some ⟨g, 0, none⟩) a5.length a5.length), .int .i64 E]) (by simp [results, Tryz.results110, go_sem, z0, z1, z2, z3, z4]) rfl ?_
      exact ⟨_, rfl, .inr ⟨g, rfl, by have := HBs.out; omega, HRo.out.of_block (st5_other _ _ _ _ _ (by have := HBs.out; omega))⟩, st5_below _ _ _ _ _ (by omega) HB2.out⟩
end Go.Proofs.YtpbfbejckhbijaaGreatDoor
namespace Go.Proofs.YtpbfbejckhbijaaGreatDoor
open Go.RowKit

/-- Row i of the cells at p, of m numbers. -/
def rp (p : Option Addr) (m i : Nat) : Value := match p with | some ad => .slice (some ⟨ad.block, ad.off + i * m, ad.spot⟩) m m | none => .slice none 0 0
/-- The rows, as far as they have been written. -/
def rq (p : Option Addr) (m k i : Nat) : Value := if i < k then rp p m i else .slice none 0 0
theorem rq_next {w : World} {b n m k : Nat} {p : Option Addr} {x : Value} (h : w.rowIs b 41 n (rq p m k)) (hx : rp p m k = x) : (w.setCell ⟨b, k, none⟩ x).rowIs b 41 n (rq p m (k + 1)) := by
  subst hx
  refine (h.set k _).congr fun i hi => ?_
  show (if i = k then rp p m k else rq p m k i) = rq p m (k + 1) i
  unfold rq
  by_cases e : i = k
  · subst e; rw [if_pos rfl, if_pos (by omega)]
  · rw [if_neg e]
    by_cases e2 : i < k
    · rw [if_pos e2, if_pos (by omega)]
    · rw [if_neg e2, if_neg (by omega)]
theorem rq_all {w : World} {b n m : Nat} {p : Option Addr} (h : w.rowIs b 41 n (rq p m n)) : w.rowIs b 41 n (rp p m) := h.congr fun i hi => by unfold rq; rw [if_pos hi]
/-- What a walk of rows keeps. -/
structure KE (w : World) (A : Ar) (v : Value) (W : World) : Prop where
  bel : Below w.heap.size w W
  sz : w.heap.size < W.heap.size
  blk : R5 W w.heap.size A.k A.r A.a A.b v
theorem KE.far {w W W' : World} {A : Ar} {v : Value} (h : KE w A v W) (hb : Below (w.heap.size + 1) W W') : KE w A v W' :=
  ⟨h.bel.trans (hb.mono (by omega)), Nat.lt_of_lt_of_le h.sz hb.size, (hb.block _ (by omega)).trans h.blk⟩
theorem KE.next {w W W' : World} {A : Ar} {v : Value} (h : KE w A v W) (hb : Below W.heap.size W W') : KE w A v W' := h.far (hb.mono h.sz)
theorem KE.new (w : World) (A : Ar) (v : Value) : KE w A v (w.alloc (.cells #[.int .i64 A.k, .int .i64 A.r, .int .i64 A.a, .int .i64 A.b, v] 43)) := ⟨bel1 _ _, by simp, R5.new _ _ _ _ _ _⟩
theorem KE.put {w W : World} {A : Ar} {v : Value} (h : KE w A v W) {g : Nat} (hg : w.heap.size < g) (j : Nat) (x : Value) : KE w A v (W.setCell ⟨g, j, none⟩ x) := h.far ((Below.refl _ _).setCell (p := ⟨g, j, none⟩) (by show w.heap.size + 1 ≤ g; omega) _)

theorem rp_some (b off : Nat) (m i : Nat) : rp (some ⟨b, off, none⟩) m i = .slice (some ⟨b, off + i * m, none⟩) m m := rfl
theorem rp_zero (ad : Addr) (i : Nat) : rp (some ad) 0 i = .slice (some ad) 0 0 := by simp [rp]
theorem rp_nil (i : Nat) : rp none 0 i = .slice none 0 0 := rfl
set_option maxRecDepth 100000 in
set_option maxHeartbeats 8000000 in
theorem mrows2_any (k : Int) (n m : Nat) (l : Nat) (p : Option Addr) (cap : Nat) (w : World) (hl : n * m = l) (hn : n ≤ 400) (hm : m ≤ 400) (hcap : l ≤ cap) (hcap2 : cap ≤ 9223372036854775807)
    (hp : 0 < l → ∃ b off, p = some ⟨b, off, none⟩) (hp0 : p = none → cap = 0) :
    Calls Tryz.prog 108 #[A5 k 2 n m (.slice p l cap)] w fun e w' => ∃ h, e = .returned (.slice (some ⟨h, 0, none⟩) n n) ∧ w.heap.size ≤ h ∧ w'.rowIs h 41 n (rp p m) ∧ Below w.heap.size w w' := by
  obtain ⟨i0, hi, hz0, hz1, hz2⟩ := info_parts infoS
  have hmk := fun W : World => run_make (P := Tryz.prog) W 105 41 i0 (.slice none 0 0) Tryz.underlying105 hi hz0 .i64 .i64 n n (by omega) (by omega) (by rw [hz2]; omega) (by omega)
  simp only [Int.toNat_natCast, hz1, Nat.mul_one] at hmk
  have HK := Lib.hid (KE.new w ⟨k, 2, n, m, []⟩ (.slice p l cap))
  have x0 := HK.out.blk.c0; have x1 := HK.out.blk.c1; have x2 := HK.out.blk.c2; have x3 := HK.out.blk.c3; have x4 := HK.out.blk.c4
  simp only at x0 x1 x2 x3 x4
  have HP := Lib.hid (And.intro hp hp0)
  clear hp hp0
  go_enter Tryz.func108, Tryz.ntmps108
  go_wp2_with fail
  go_quiet (fail)
  generalize hW1 : World.drewN _ nq = W1
  have HK1 : Hid (KE w ⟨k, 2, n, m, []⟩ (.slice p l cap) W1) := by rw [← hW1]; exact HK.out.next (drewN_below _ nq)
  clear hW1 HK x0 x1 x2 x3 x4
  have x1 := HK1.out.blk.c1; have x2 := HK1.out.blk.c2; have x3 := HK1.out.blk.c3
  simp only at x1 x2 x3
  go_wp2_with fail
  go_quiet (fail)
  generalize hW2 : World.drewN W1 _ = W2
  have HK2 : Hid (KE w ⟨k, 2, n, m, []⟩ (.slice p l cap) W2) := by rw [← hW2]; exact HK1.out.next (drewN_below _ _)
  clear hW2 HK1 x1 x2 x3
  have hmk1 := hmk W2
  go_wp2_with fail
  have hws : w.heap.size < W2.heap.size := HK2.out.sz
  have HM0 := Lib.hid (HK2.out.next (bel1 W2 (.cells (madeCells (Value.slice none 0 0).cells n) 41)))
  have HR0 : Hid ((W2.alloc (.cells (madeCells (Value.slice none 0 0).cells n) 41)).rowIs W2.heap.size 41 n (rq p m 0)) := (World.rowIs_made W2 (.slice none 0 0) n 41).congr fun i _ => by unfold rq; rw [if_neg (by omega)]
  clear hmk1 hmk HK2
  go_loopg [25] n (fun gk i wr => ∃ j : Nat, j + gk = n ∧ i = .int .i64 j ∧ KE w ⟨k, 2, n, m, []⟩ (.slice p l cap) wr ∧ wr.rowIs W2.heap.size 41 n (rq p m j))
  case atStart => exact ⟨0, by omega, rfl, HM0.out, HR0.out⟩
  case round =>
    obtain ⟨j, hjg, rfl, hk, hrow⟩ := hrel
    have HK := Lib.hid hk
    have HRo := Lib.hid hrow
    clear hk hrow HM0 HR0
    cases gk with
    | zero =>
      have hjz : ¬ ((j : Int) < (n : Int)) := by omega
      go_wp2
      obtain rfl : j = n := by omega
      go_ret
      exact ⟨_, rfl, by omega, rq_all HRo.out, HK.out.bel⟩
    | succ g2 =>
      have hjz : (j : Int) < (n : Int) := by omega
      have hj : j < n := by omega
      have x4 := HK.out.blk.c4
      have hw0 : IntKind.i64.wrap ((j : Int) + 1) = (j : Int) + 1 := by rw [IntKind.wrap_i64]; omega
      have hy : wr.cell? ⟨W2.heap.size, j, none⟩ = some (.slice none 0 0) := by
        rw [HRo.out.cell hj]; unfold rq; rw [if_neg (by omega)]
      have hyf : wr.frozen? ⟨W2.heap.size, j, none⟩ = false := HRo.out.frozen j
      by_cases hm0 : m = 0
      · subst hm0
        have hl0 : l = 0 := by rw [← hl, Nat.mul_zero]
        subst hl0
        have hw1 : IntKind.i64.wrap 0 = 0 := by rw [IntKind.wrap_i64]; omega
        rcases p with _ | ad
        · have hc0 : cap = 0 := HP.out.2 rfl
          subst hc0
          clear hl hcap hcap2
          go_wp2
          go_roundg g2
          case measure => omega
          case rel => exact ⟨j + 1, by omega, by go_num, HK.out.put (by omega) _ _, rq_next HRo.out (by rw [rp_nil])⟩
        · clear hl
          go_wp2
          go_roundg g2
          case measure => omega
          case rel => exact ⟨j + 1, by omega, by go_num, HK.out.put (by omega) _ _, rq_next HRo.out (by rw [rp_zero])⟩
      · have hle : (j + 1) * m ≤ n * m := Nat.mul_le_mul_right _ (by omega)
        have hjm : (j + 1) * m = j * m + m := by rw [Nat.add_mul]; omega
        have hw1 : IntKind.i64.wrap ((j : Int) * (m : Int)) = ((j * m : Nat) : Int) := by rw [← Int.natCast_mul, IntKind.wrap_i64]; omega
        have hw2 : IntKind.i64.wrap (((j : Int) + 1) * (m : Int)) = (((j + 1) * m : Nat) : Int) := by rw [show ((j : Int) + 1) = ((j + 1 : Nat) : Int) by omega, ← Int.natCast_mul, IntKind.wrap_i64]; omega
        have hj0 : (0 : Int) ≤ (j : Int) * (m : Int) := by rw [← Int.natCast_mul]; omega
        have hb1 : (j : Int) * (m : Int) + (m : Int) ≤ (cap : Int) := by rw [← Int.natCast_mul]; omega
        have hl0 : 0 < l := by rw [← hl]; exact Nat.mul_pos (by omega) (by omega)
        obtain ⟨b, off, rfl⟩ := HP.out.1 hl0
        have hmp : 0 < m := by omega
        clear hm0
        go_wp2
        go_roundg g2
        case measure => omega
        case rel => exact ⟨j + 1, by omega, by go_num, HK.out.put (by omega) _ _, rq_next HRo.out (by rw [rp_some])⟩

set_option maxRecDepth 100000 in
set_option maxHeartbeats 8000000 in
theorem mrows1_any (k : Int) (l : Nat) (b : Int) (p : Option Addr) (cap : Nat) (w : World) (hl : l ≤ 1000000) (hcap : l ≤ cap) (hcap2 : cap ≤ 9223372036854775807)
    (hp : 0 < l → ∃ b off, p = some ⟨b, off, none⟩) (hp0 : p = none → cap = 0) :
    Calls Tryz.prog 108 #[A5 k 1 l b (.slice p l cap)] w fun e w' => ∃ h, e = .returned (.slice (some ⟨h, 0, none⟩) 1 1) ∧ w.heap.size ≤ h ∧ w'.rowIs h 41 1 (rp p l) ∧ Below w.heap.size w w' := by
  obtain ⟨i0, hi, hz0, hz1, hz2⟩ := info_parts infoS
  have hmk := fun W : World => run_make (P := Tryz.prog) W 105 41 i0 (.slice none 0 0) Tryz.underlying105 hi hz0 .i64 .i64 1 1 (by omega) (by omega) (by rw [hz2]; omega) (by omega)
  simp only [hz1, Nat.mul_one, show (1 : Int).toNat = 1 from rfl] at hmk
  have HK := Lib.hid (KE.new w ⟨k, 1, l, b, []⟩ (.slice p l cap))
  have x0 := HK.out.blk.c0; have x1 := HK.out.blk.c1; have x2 := HK.out.blk.c2; have x3 := HK.out.blk.c3; have x4 := HK.out.blk.c4
  simp only at x0 x1 x2 x3 x4
  have HP := Lib.hid (And.intro hp hp0)
  clear hp hp0
  go_enter Tryz.func108, Tryz.ntmps108
  go_wp2_with fail
  go_quiet (fail)
  generalize hW1 : World.drewN _ nq = W2
  have HK2 : Hid (KE w ⟨k, 1, l, b, []⟩ (.slice p l cap) W2) := by rw [← hW1]; exact HK.out.next (drewN_below _ nq)
  clear hW1 HK x0 x1 x2 x3 x4
  have x1 := HK2.out.blk.c1
  simp only at x1
  have hmk1 := hmk W2
  have hws : w.heap.size < W2.heap.size := HK2.out.sz
  have HM0 := Lib.hid (HK2.out.next (bel1 W2 (.cells (madeCells (Value.slice none 0 0).cells 1) 41)))
  have HR0 : Hid ((W2.alloc (.cells (madeCells (Value.slice none 0 0).cells 1) 41)).rowIs W2.heap.size 41 1 (rq p l 0)) := (World.rowIs_made W2 (.slice none 0 0) 1 41).congr fun i _ => by unfold rq; rw [if_neg (by omega)]
  clear hmk HM0
  go_wp2_with fail
  clear hmk1 x1
  generalize hWr : World.alloc W2 _ = wr
  have HM0 : Hid (KE w ⟨k, 1, l, b, []⟩ (.slice p l cap) wr) := by rw [← hWr]; exact HK2.out.next (bel1 _ _)
  have HR1 : Hid (wr.rowIs W2.heap.size 41 1 (rq p l 0)) := by rw [← hWr]; exact HR0.out
  clear HR0 hWr HK2
  have HR0 := HR1
  clear HR1
  have x4 := HM0.out.blk.c4
  have hy : wr.cell? ⟨W2.heap.size, 0, none⟩ = some (.slice none 0 0) := by
    rw [HR0.out.cell (by omega)]; unfold rq; rw [if_neg (by omega)]
  have hyf : wr.frozen? ⟨W2.heap.size, 0, none⟩ = false := HR0.out.frozen 0
  have hw1 : IntKind.i64.wrap 0 = 0 := by rw [IntKind.wrap_i64]; omega
  have hw2 : IntKind.i64.wrap 1 = 1 := by rw [IntKind.wrap_i64]; omega
  have hw3 : IntKind.i64.wrap (l : Int) = (l : Int) := by rw [IntKind.wrap_i64]; omega
  refine wp_loop_rounds 4 ?_
  rw [rounds_succ]
  by_cases hl0 : l = 0
  · subst hl0
    clear hw3 hl
    rcases p with _ | ad
    · have hc0 : cap = 0 := HP.out.2 rfl
      subst hc0
      clear hcap hcap2
      have HF : Hid ((wr.setCell ⟨W2.heap.size, 0, none⟩ (.slice none 0 0)).rowIs W2.heap.size 41 1 (rp none 0)) := rq_all (rq_next HR0.out (by rw [rp_nil]))
      have HG := Lib.hid (HM0.out.put hws 0 (.slice none 0 0))
      go_wp2
      rw [rounds_succ]
      go_wp2
      go_ret
      exact ⟨_, rfl, by omega, HF.out, HG.out.bel⟩
    · have HF : Hid ((wr.setCell ⟨W2.heap.size, 0, none⟩ (.slice (some ad) 0 0)).rowIs W2.heap.size 41 1 (rp (some ad) 0)) := rq_all (rq_next HR0.out (by rw [rp_zero]))
      have HG := Lib.hid (HM0.out.put hws 0 (.slice (some ad) 0 0))
      go_wp2
      rw [rounds_succ]
      go_wp2
      go_ret
      exact ⟨_, rfl, by omega, HF.out, HG.out.bel⟩
  · obtain ⟨bk, off, rfl⟩ := HP.out.1 (by omega)
    have hlp : 0 < l := by omega
    have HF : Hid ((wr.setCell ⟨W2.heap.size, 0, none⟩ (.slice (some ⟨bk, off, none⟩) l l)).rowIs W2.heap.size 41 1 (rp (some ⟨bk, off, none⟩) l)) := rq_all (rq_next HR0.out (by rw [rp_some, Nat.zero_mul, Nat.add_zero]))
    have HG := Lib.hid (HM0.out.put hws 0 (.slice (some ⟨bk, off, none⟩) l l))
    clear hl0
    go_wp2
    rw [rounds_succ]
    go_wp2
    go_ret
    exact ⟨_, rfl, by omega, HF.out, HG.out.bel⟩
/-- rows, of vectors and matrices. -/
theorem mrows_any (A : Ar) (v : Value) (w : World) (hA : Good A) (hr : A.r = 1 ∨ A.r = 2) (hv : RdI w.heap.size w v A.z) (hn : Ru.NilC v) :
    ∃ p cap, v = .slice p A.z.length cap ∧ ∀ W, Calls Tryz.prog 108 #[A5 A.k A.r A.a A.b v] W fun e w' => ∃ h, e = .returned (.slice (some ⟨h, 0, none⟩) (rwN A) (rwN A)) ∧ W.heap.size ≤ h ∧ w'.rowIs h 41 (rwN A) (rp p (rwM A)) ∧ Below W.heap.size W w' := by
  obtain ⟨p, cap, rfl, hcap, hcap2, hcell⟩ := hv
  refine ⟨p, cap, rfl, fun W => ?_⟩
  have hp : 0 < A.z.length → ∃ b off, p = some ⟨b, off, none⟩ := fun h => by
    obtain ⟨b, off, e, _⟩ := hcell (List.length_pos_iff.1 h)
    exact ⟨b, off, e⟩
  have hp0 : p = none → cap = 0 := fun e => by subst e; exact hn _ _ rfl
  rcases hr with hr | hr
  · obtain ⟨q1, q2, q3, q4⟩ := rw_vec hA hr
    rw [q1, q2, hr, q3]
    exact mrows1_any A.k A.z.length A.b p cap W (by have := hA.len4; omega) hcap hcap2 hp hp0
  · obtain ⟨q1, q2, q3, q4, q5⟩ := rw_mat hA hr
    rw [hr, q1, q2]
    exact mrows2_any A.k (rwN A) (rwM A) A.z.length p cap W q3.symm q4 q5 hcap hcap2 hp hp0
end Go.Proofs.YtpbfbejckhbijaaGreatDoor
namespace Go.Proofs.YtpbfbejckhbijaaGreatDoor
open Go.RowKit

/-- All blocks but one are as they were. -/
structure But (g : Nat) (w w' : World) : Prop where
  os : w'.os = w.os
  tape : w'.tape = w.tape
  output : w'.output = w.output
  size : w'.heap.size = w.heap.size
  block : ∀ k, k ≠ g → w'.heap[k]? = w.heap[k]?
theorem But.refl (g : Nat) (w : World) : But g w w := ⟨rfl, rfl, rfl, rfl, fun _ _ => rfl⟩
theorem But.trans {g : Nat} {a b c : World} (h : But g a b) (k : But g b c) : But g a c := ⟨k.os.trans h.os, k.tape.trans h.tape, k.output.trans h.output, k.size.trans h.size, fun i hi => (k.block i hi).trans (h.block i hi)⟩
theorem But.drew {g : Nat} {a w : World} (h : But g a w) : But g a w.drew := ⟨h.os, h.tape, h.output, h.size, h.block⟩
theorem But.setCell {g : Nat} {a w : World} (h : But g a w) (j : Nat) (x : Value) : But g a (w.setCell ⟨g, j, none⟩ x) :=
  h.trans ⟨rfl, rfl, rfl, by simp [World.setCell], fun k hk => Below.heap_setCell _ _ _ _ hk⟩
theorem But.below {g B : Nat} {w w' : World} (h : But g w w') (hB : B ≤ g) : Below B w w' := ⟨h.os, h.tape, h.output, Nat.le_of_eq h.size.symm, fun k hk => h.block k (by omega)⟩
/-- A row of numbers by its function. -/
abbrev rowZ (w : World) (g n : Nat) (f : Nat → Int) : Prop := w.rowIs g 2 n (fun i => .int .i64 (f i))
theorem rowZ.put {w : World} {g n : Nat} {f : Nat → Int} (h : rowZ w g n f) (k : Nat) (x : Int) : rowZ (w.setCell ⟨g, k, none⟩ (.int .i64 x)) g n (fun i => if i = k then x else f i) := by
  refine (h.set k _).congr fun i hi => ?_
  show (if i = k then Value.int .i64 x else .int .i64 (f i)) = .int .i64 (if i = k then x else f i)
  by_cases e : i = k
  · rw [if_pos e, if_pos e]
  · rw [if_neg e, if_neg e]
theorem rowZ.congr {w : World} {g n : Nat} {f h : Nat → Int} (hw : rowZ w g n f) (e : ∀ i, i < n → f i = h i) : rowZ w g n h := World.rowIs.congr hw fun i hi => by rw [e i hi]
/-- The part from o on, of m numbers, after t exchanges from both ends. -/
def rvF (f : Nat → Int) (o m t i : Nat) : Int := if o ≤ i ∧ i < o + m ∧ (i < o + t ∨ o + m ≤ i + t) then f (o + (m - 1 - (i - o))) else f i
theorem rvF_zero (f : Nat → Int) (o m i : Nat) : rvF f o m 0 i = f i := by unfold rvF; rw [if_neg (by omega)]
theorem rvF_end {f : Nat → Int} {o m t : Nat} (h : m ≤ 2 * t + 1) (i : Nat) : rvF f o m t i = if o ≤ i ∧ i < o + m then f (o + (m - 1 - (i - o))) else f i := by
  unfold rvF
  by_cases h1 : o ≤ i ∧ i < o + m
  · rw [if_pos h1]
    by_cases h2 : i < o + t ∨ o + m ≤ i + t
    · rw [if_pos ⟨h1.1, h1.2, h2⟩]
    · rw [if_neg (by omega)]
      congr 1; omega
  · rw [if_neg h1, if_neg (by omega)]
theorem rvF_next {f : Nat → Int} {o m t j : Nat} (h : t + j + 1 = m) (ht : t < j) (i : Nat) : rvF f o m (t + 1) i = if i = o + j then f (o + t) else if i = o + t then f (o + j) else rvF f o m t i := by
  by_cases h1 : i = o + j
  · rw [if_pos h1]
    unfold rvF
    rw [if_pos (by omega)]
    congr 1; omega
  · rw [if_neg h1]
    by_cases h2 : i = o + t
    · rw [if_pos h2]
      unfold rvF
      rw [if_pos (by omega)]
      congr 1; omega
    · rw [if_neg h2]
      unfold rvF
      by_cases h3 : o ≤ i ∧ i < o + m ∧ (i < o + t ∨ o + m ≤ i + t)
      · rw [if_pos h3, if_pos (by omega)]
      · rw [if_neg h3, if_neg (by omega)]
theorem rvF_mid {f : Nat → Int} {o m t j : Nat} (h : t + j + 1 = m) (ht : t < j) : rvF f o m t (o + t) = f (o + t) ∧ rvF f o m t (o + j) = f (o + j) := by
  unfold rvF
  rw [if_neg (by omega), if_neg (by omega)]
  exact ⟨rfl, rfl⟩
/-- What the loop keeps. -/
structure Rv (w : World) (g n : Nat) (f : Nat → Int) (o m t : Nat) (W : World) : Prop where
  row : rowZ W g n (rvF f o m t)
  but : But g w W
theorem Rv.swap {w W : World} {g n : Nat} {f : Nat → Int} {o m t j : Nat} (h : Rv w g n f o m t W) (hj : t + j + 1 = m) (ht : t < j) :
    Rv w g n f o m (t + 1) ((W.setCell ⟨g, o + t, none⟩ (.int .i64 (f (o + j)))).setCell ⟨g, o + j, none⟩ (.int .i64 (f (o + t)))) :=
  ⟨((h.row.put _ _).put _ _).congr fun i _ => by rw [rvF_next hj ht], (h.but.setCell _ _).setCell _ _⟩
theorem Rv.swap' {w W : World} {g n : Nat} {f : Nat → Int} {o m t j : Nat} (h : Rv w g n f o m t W) (hj : t + j + 1 = m) (ht : t < j) :
    Rv w g n f o m (t + 1) ((W.setCell ⟨g, o + j, none⟩ (.int .i64 (f (o + t)))).setCell ⟨g, o + t, none⟩ (.int .i64 (f (o + j)))) :=
  ⟨((h.row.put _ _).put _ _).congr fun i _ => by
    rw [rvF_next hj ht]
    by_cases e : i = o + j
    · rw [if_pos e, if_neg (by omega), if_pos e]
    · rw [if_neg e, if_neg e], (h.but.setCell _ _).setCell _ _⟩
theorem Rv.drew {w W : World} {g n : Nat} {f : Nat → Int} {o m t : Nat} (h : Rv w g n f o m t W) : Rv w g n f o m t W.drew := ⟨h.row.drew, h.but.drew⟩

set_option maxRecDepth 100000 in
set_option maxHeartbeats 8000000 in
theorem reverse_any (g o m n : Nat) (f : Nat → Int) (w : World) (hrow : rowZ w g n f) (hm : o + m ≤ n) (hn : n ≤ 1000000) :
    Calls Tryz.prog 109 #[.slice (some ⟨g, o, none⟩) m m] w fun e w' => e = .returned (.tuple #[]) ∧ rowZ w' g n (fun i => if o ≤ i ∧ i < o + m then f (o + (m - 1 - (i - o))) else f i) ∧ But g w w' := by
  have HR0 : Hid (Rv w g n f o m 0 w) := ⟨hrow.congr fun i _ => (rvF_zero f o m i).symm, But.refl _ _⟩
  clear hrow
  have hw1 : IntKind.i64.wrap ((m : Int) - 1) = (m : Int) - 1 := by rw [IntKind.wrap_i64]; omega
  have mixed : Tryz.prog.follows Departure.mixedOrders = true := by kernel_rfl
  go_enter Tryz.func109, Tryz.ntmps109
  go_wp2
  clear hw1
  go_loopg [2, 3] m (fun gk a b wr => ∃ (t : Nat) (jz : Int), t + gk = m ∧ a = .int .i64 t ∧ b = .int .i64 jz ∧ t + jz + 1 = m ∧ Rv w g n f o m t wr)
  case atStart => exact ⟨0, (m : Int) - 1, by omega, rfl, rfl, by omega, HR0.out⟩
  case round =>
    obtain ⟨t, jz, hgk, rfl, rfl, hj, hrv⟩ := hrel
    have HRv := Lib.hid hrv
    clear hrv HR0
    by_cases hlt : (t : Int) < jz
    · obtain ⟨j, rfl⟩ : ∃ j : Nat, jz = j := ⟨jz.toNat, by omega⟩
      have HJ : Hid (t + j + 1 = m) := by unfold Hid; omega
      have HT : Hid (t < j) := by unfold Hid; omega
      obtain ⟨q1, q2⟩ := rvF_mid (f := f) (o := o) HJ.out HT.out
      have x1 : wr.cell? ⟨g, o + t, none⟩ = some (.int .i64 (f (o + t))) := by rw [HRv.out.row.cell (by omega), q1]
      have x2 : wr.cell? ⟨g, o + j, none⟩ = some (.int .i64 (f (o + j))) := by rw [HRv.out.row.cell (by omega), q2]
      have f1 : wr.frozen? ⟨g, o + t, none⟩ = false := HRv.out.row.frozen _
      have f2 : wr.frozen? ⟨g, o + j, none⟩ = false := HRv.out.row.frozen _
      have hw1 : IntKind.i64.wrap ((t : Int) + 1) = (t : Int) + 1 := by rw [IntKind.wrap_i64]; omega
      have hw2 : IntKind.i64.wrap ((j : Int) - 1) = (j : Int) - 1 := by rw [IntKind.wrap_i64]; omega
      obtain ⟨gk2, rfl⟩ : ∃ gk2, gk = gk2 + 1 := ⟨gk - 1, by omega⟩
      clear q1 q2 hj
      have hjm : (j : Int) < (m : Int) := by have := HJ.out; omega
      have htm : (t : Int) < (m : Int) := by have := HJ.out; omega
      go_wp2_with fail
      go_region_o
      all_goals
        go_wp2
        go_roundg gk2
        case measure => omega
        case rel => exact ⟨t + 1, (j : Int) - 1, by omega, by go_num, rfl, by have := HJ.out; omega, by first | exact (HRv.out.swap HJ.out HT.out).drew | exact (HRv.out.swap' HJ.out HT.out).drew⟩
    · have HF := Lib.hid (HRv.out.row.congr fun i _ => rvF_end (show m ≤ 2 * t + 1 by omega) i)
      have HB := Lib.hid HRv.out.but
      clear HRv hj
      go_wp2
      go_end0
      exact ⟨rfl, HF.out, HB.out⟩
end Go.Proofs.YtpbfbejckhbijaaGreatDoor
namespace Go.Proofs.YtpbfbejckhbijaaGreatDoor
open Go.RowKit

/-- What a walk over one array keeps. -/
structure MK1 (w : World) (A : Ar) (v : Value) (W : World) : Prop where
  bel : Below w.heap.size w W
  sz : w.heap.size + 2 ≤ W.heap.size
  box : R5 W w.heap.size A.k A.r A.a A.b v
  res : R5 W (w.heap.size + 1) 0 0 0 0 (.slice none 0 0)
  rd : RdI w.heap.size W v A.z
  lay : Ru.Lay W
theorem MK1.far {w W W' : World} {A : Ar} {v : Value} (h : MK1 w A v W) (hb : Below (w.heap.size + 2) W W') (hl : Ru.Lay W') : MK1 w A v W' :=
  ⟨h.bel.trans (hb.mono (by omega)), Nat.le_trans h.sz hb.size, (hb.block _ (by omega)).trans h.box, (hb.block _ (by omega)).trans h.res, h.rd.below (hb.mono (by omega)), hl⟩
theorem MK1.next {w W W' : World} {A : Ar} {v : Value} (h : MK1 w A v W) (hb : Below W.heap.size W W') : MK1 w A v W' := h.far (hb.mono h.sz) (h.lay.next hb)
theorem MK1.rdn {w W : World} {A : Ar} {v : Value} (h : MK1 w A v W) : RdI W.heap.size W v A.z := h.rd.mono h.bel.size
theorem MK1.new {w : World} {A : Ar} {v : Value} (hw : Ru.Lay w) (hv : RdI w.heap.size w v A.z) : MK1 w A v ((w.alloc (.cells #[.int .i64 A.k, .int .i64 A.r, .int .i64 A.a, .int .i64 A.b, v] 43)).alloc (.cells #[.int .i64 0, .int .i64 0, .int .i64 0, .int .i64 0, .slice none 0 0] 43)) := by
  have e : (w.alloc (.cells #[.int .i64 A.k, .int .i64 A.r, .int .i64 A.a, .int .i64 A.b, v] 43)).heap.size = w.heap.size + 1 := by simp
  have hb : Below w.heap.size w ((w.alloc (.cells #[.int .i64 A.k, .int .i64 A.r, .int .i64 A.a, .int .i64 A.b, v] 43)).alloc (.cells #[.int .i64 0, .int .i64 0, .int .i64 0, .int .i64 0, .slice none 0 0] 43)) := (bel1 _ _).trans ((bel1 _ _).mono (by simp))
  refine ⟨hb, by simp, (R5.new _ _ _ _ _ _).alloc _, ?_, hv.below hb, (hw.alloc _).alloc _⟩
  rw [← e]; exact R5.new _ _ _ _ _ _
theorem one_all (A : Ar) : oneE A 0 2 = ck A := by
  unfold oneE
  by_cases h : ck A = 0
  · rw [if_pos h, if_neg, h]
    have := (ck_good h).sh
    obtain ⟨k, r, a, b, z⟩ := A
    simp only at this ⊢
    cases this <;> omega
  · rw [if_neg h]
theorem ra_vec {A : Ar} (h : Good A) : ck (vecA A.k A.z) = 0 ∧ mk (vecA A.k A.z) = vecA A.k A.z := ⟨good_vec h (Nat.le_refl _) fun _ h => h, mk_yes (good_vec h (Nat.le_refl _) fun _ h => h)⟩
/-- vector of cells that are good: spelled out. -/
theorem mvec_ok {k : Int} {z : List Int} (h : ck (vecA k z) = 0) (v : Value) (w : World) (hw : Ru.Lay w) (hv : RdI w.heap.size w v z) (hl : z.length ≤ 1000000) :
    Calls Tryz.prog 106 #[.int .i64 k, v] w fun e w' => ∃ q c, e = .returned (.tuple #[A5 k 1 z.length 0 (.slice q z.length c), .int .i64 0]) ∧ RdN w.heap.size w' (.slice q z.length c) z ∧ Below w.heap.size w w' := by
  refine (mvector_any k z v w hw hv hl).mono ?_
  rw [h, mk_yes h]
  rintro e w' ⟨u, h1, h2, h3⟩
  obtain ⟨q, c, e2, _⟩ := h2.form
  subst e2
  exact ⟨q, c, h1, h2, h3⟩

set_option maxRecDepth 100000 in
set_option maxHeartbeats 8000000 in
theorem ravel_any (A : Ar) (v : Value) (w : World) (hw : Ru.Lay w) (hv : RdI w.heap.size w v A.z) (hl : A.z.length ≤ 1000000) :
    Calls Tryz.prog 50 #[A5 A.k A.r A.a A.b v] w (RetE (raV A) (ck A) w) := by
  have HFa := Lib.hid (fun W g hg h1 h2 => fault1_any A v 0 2 W g hg h1 h2 hl)
  have HK := Lib.hid (MK1.new (A := A) hw hv)
  have x0 := HK.out.box.c0; have x1 := HK.out.box.c1; have x2 := HK.out.box.c2; have x3 := HK.out.box.c3; have x4 := HK.out.box.c4
  obtain ⟨p, cap, rfl, hcap, hcap2, hcell⟩ := hv
  clear hcell hw
  rw [one_all] at HFa
  unfold raV
  by_cases h1 : ck A = 0
  · have HVe := Lib.hid (fun W hw hv => mvec_ok (ra_vec (ck_good h1)).1 (.slice p A.z.length cap) W hw hv hl)
    rw [orNo_yes h1, h1]
    rw [h1] at HFa
    clear h1
    go_enter Tryz.func50, Tryz.ntmps50
    go_wp2_with (first
      | (go_at_call 105; (with_reducible refine (HFa.out _ _ (by first | rfl | simp) HK.out.lay HK.out.rdn).mono ?_); rintro e w1 ⟨rfl, hb⟩; have HK2 := Lib.hid (HK.out.next hb); clear HK x0 x1 x2 x3 x4; have HK := HK2; clear HK2; have x0 := HK.out.box.c0; have x1 := HK.out.box.c1; have x2 := HK.out.box.c2; have x3 := HK.out.box.c3; have x4 := HK.out.box.c4; clear hb)
      | (go_at_call 106; (with_reducible refine (HVe.out _ HK.out.lay HK.out.rdn).mono ?_); rintro e w2 ⟨q, qc, rfl, hu, hb⟩; have HU := Lib.hid hu; have hlt := HK.out.sz; have HK2 := Lib.hid (HK.out.next hb); clear HK x0 x1 x2 x3 x4; have HK := HK2; clear HK2; have x0 := HK.out.box.c0; have x1 := HK.out.box.c1; have x2 := HK.out.box.c2; have x3 := HK.out.box.c3; have x4 := HK.out.box.c4; clear hu hb; have y0 := HK.out.res.c0; have y1 := HK.out.res.c1; have y2 := HK.out.res.c2; have y3 := HK.out.res.c3; have y4 := HK.out.res.c4; have f0 := HK.out.res.fr 0; have f1 := HK.out.res.fr 1; have f2 := HK.out.res.fr 2; have f3 := HK.out.res.fr 3; have f4 := HK.out.res.fr 4; have HS := Lib.hid (HK.out.res.set A.k 1 A.z.length 0 (.slice q A.z.length qc)); have z0 := HS.out.c0; have z1 := HS.out.c1; have z2 := HS.out.c2; have z3 := HS.out.c3; have z4 := HS.out.c4))
    refine bodyPost_ret (v := .tuple #[A5 A.k 1 A.z.length 0 (.slice q A.z.length qc), .int .i64 0]) (by simp [results, Tryz.results50, go_sem, z0, z1, z2, z3, z4]) rfl ?_
    exact ⟨_, rfl, (HU.out.st5 (by omega) _ _ _ _ _).mono (by omega), st5_below _ _ _ _ _ (by omega) HK.out.bel⟩
  · rw [orNo_no h1]
    obtain ⟨E, hE⟩ : ∃ E, ck A = E := ⟨_, rfl⟩
    rw [hE] at h1 HFa ⊢
    have k1 : (E != 0) = true := by simpa using h1
    clear h1 hE
    go_enter Tryz.func50, Tryz.ntmps50
    go_wp2_with (go_at_call 105; (with_reducible refine (HFa.out _ _ (by first | rfl | simp) HK.out.lay HK.out.rdn).mono ?_); rintro e w1 ⟨rfl, hb⟩; have HK2 := Lib.hid (HK.out.next hb); clear HK x0 x1 x2 x3 x4; have HK := HK2; clear HK2; have x0 := HK.out.box.c0; have x1 := HK.out.box.c1; have x2 := HK.out.box.c2; have x3 := HK.out.box.c3; have x4 := HK.out.box.c4; clear hb; have y0 := HK.out.res.c0; have y1 := HK.out.res.c1; have y2 := HK.out.res.c2; have y3 := HK.out.res.c3; have y4 := HK.out.res.c4; have f0 := HK.out.res.fr 0; have f1 := HK.out.res.fr 1; have f2 := HK.out.res.fr 2; have f3 := HK.out.res.fr 3; have f4 := HK.out.res.fr 4; have HS := Lib.hid (HK.out.res.set 0 0 0 0 (.slice none 0 0)); have z0 := HS.out.c0; have z1 := HS.out.c1; have z2 := HS.out.c2; have z3 := HS.out.c3; have z4 := HS.out.c4)
    exact bodyPost_ret (v := .tuple #[A5 0 0 0 0 (.slice none 0 0), .int .i64 E]) (by simp [results, Tryz.results50, go_sem, z0, z1, z2, z3, z4]) rfl (retE_no _ (st5_below _ _ _ _ _ (by omega) HK.out.bel))
end Go.Proofs.YtpbfbejckhbijaaGreatDoor
namespace Go.Proofs.YtpbfbejckhbijaaGreatDoor
open Go.RowKit

theorem mrows_ok {A : Ar} (hA : Good A) (hr : A.r = 1 ∨ A.r = 2) (b off cap : Nat) (W : World) (hcap : A.z.length ≤ cap) (hcap2 : cap ≤ 9223372036854775807) :
    Calls Tryz.prog 108 #[A5 A.k A.r A.a A.b (.slice (some ⟨b, off, none⟩) A.z.length cap)] W fun e w' => ∃ h, e = .returned (.slice (some ⟨h, 0, none⟩) (rwN A) (rwN A)) ∧ W.heap.size ≤ h ∧ w'.rowIs h 41 (rwN A) (rp (some ⟨b, off, none⟩) (rwM A)) ∧ Below W.heap.size W w' := by
  have hp : 0 < A.z.length → ∃ b' off', (some ⟨b, off, none⟩ : Option Addr) = some ⟨b', off', none⟩ := fun _ => ⟨b, off, rfl⟩
  have hp0 : (some ⟨b, off, none⟩ : Option Addr) = none → cap = 0 := fun e => by cases e
  rcases hr with hr | hr
  · obtain ⟨q1, q2, q3, q4⟩ := rw_vec hA hr
    rw [q1, q2, hr, q3]
    exact mrows1_any A.k A.z.length A.b _ cap W (by have := hA.len4; omega) hcap hcap2 hp hp0
  · obtain ⟨q1, q2, q3, q4, q5⟩ := rw_mat hA hr
    rw [hr, q1, q2]
    exact mrows2_any A.k (rwN A) (rwM A) A.z.length _ cap W q3.symm q4 q5 hcap hcap2 hp hp0
theorem zf_rowZ {w : World} {g n : Nat} {z : List Int} (h : w.rowIs g 2 n (zf z n)) : rowZ w g n (fun i => z.getD i 0) := World.rowIs.congr h fun i hi => by unfold zf; rw [if_pos hi]
theorem rowZ.zf {w : World} {g n : Nat} {z : List Int} (h : rowZ w g n (fun i => z.getD i 0)) : w.rowIs g 2 n (zf z n) := World.rowIs.congr h fun i hi => by unfold Go.Proofs.YtpbfbejckhbijaaGreatDoor.zf; rw [if_pos hi]
/-- Make of an array that is one: spelled out. -/
theorem make_ok {A : Ar} (h : ck A = 0) (v : Value) (w : World) (hw : Ru.Lay w) (hv : RdI w.heap.size w v A.z) (hl : A.z.length ≤ 1000000) :
    Calls Tryz.prog 107 #[.int .i64 A.k, .int .i64 A.r, P2 A.a A.b, v] w fun e w' => ∃ g, e = .returned (.tuple #[A5 A.k A.r A.a A.b (.slice (some ⟨g, 0, none⟩) A.z.length A.z.length), .int .i64 0]) ∧ w.heap.size ≤ g ∧ g < w'.heap.size ∧ rowZ w' g A.z.length (fun i => A.z.getD i 0) ∧ Below w.heap.size w w' := by
  refine (makeW_any A.k A.r A.a A.b A.z v w hw hv hl).mono ?_
  have h' : ck ⟨A.k, A.r, A.a, A.b, A.z⟩ = 0 := h
  rw [mk_yes h', h']
  rintro e w' ⟨u, h1, h2, h3⟩
  rcases h2 with ⟨hn, _⟩ | ⟨g, rfl, hg, hrow⟩
  · exact absurd rfl hn
  · exact ⟨g, h1, hg, hrow.lt, zf_rowZ hrow, h3⟩
/-- blank that is an array: spelled out. -/
theorem blank_ok {k r a b : Int} {n : Nat} (h : ck ⟨k, r, a, b, List.replicate n 0⟩ = 0) (w : World) (hw : Ru.Lay w) (hn : (if r = 2 then a * b else a) = (n : Int)) (hl : n ≤ 1000000) :
    Calls Tryz.prog 110 #[.int .i64 k, .int .i64 r, P2 a b] w fun e w' => ∃ g, e = .returned (.tuple #[A5 k r a b (.slice (some ⟨g, 0, none⟩) n n), .int .i64 0]) ∧ w.heap.size ≤ g ∧ g < w'.heap.size ∧ rowZ w' g n (fun _ => 0) ∧ Below w.heap.size w w' := by
  refine (blank_any k r a b n w hw hn hl).mono ?_
  rw [mk_yes h, h]
  rintro e w' ⟨u, h1, h2, h3⟩
  rcases h2 with ⟨hn, _⟩ | ⟨g, rfl, hg, hrow⟩
  · exact absurd rfl hn
  · simp only [List.length_replicate] at h1 hrow
    exact ⟨g, h1, hg, hrow.lt, World.rowIs.congr hrow fun i hi => by unfold zf; rw [if_pos hi, List.getD_eq_getElem?_getD, List.getElem?_replicate]; simp [hi], h3⟩
/-- Cells, of which the first rows are reversed. -/
def rvR (A : Ar) (j i : Nat) : Int := if i < j * rwM A then (rvZ A).getD i 0 else A.z.getD i 0
theorem rvR_next {A : Ar} {j : Nat} (hj : j < rwN A) (i : Nat) : (if j * rwM A ≤ i ∧ i < j * rwM A + rwM A then rvR A j (j * rwM A + (rwM A - 1 - (i - j * rwM A))) else rvR A j i) = rvR A (j + 1) i := by
  have e : (j + 1) * rwM A = j * rwM A + rwM A := by rw [Nat.add_mul, Nat.one_mul]
  unfold rvR
  rw [e]
  by_cases h1 : j * rwM A ≤ i ∧ i < j * rwM A + rwM A
  · rw [if_pos h1, if_neg (by omega), if_pos h1.2]
    obtain ⟨k, rfl⟩ : ∃ k, i = j * rwM A + k := ⟨i - j * rwM A, by omega⟩
    rw [show j * rwM A + k - j * rwM A = k by omega]
    unfold rvZ
    rw [gl_at hj (by omega)]
  · rw [if_neg h1]
    by_cases h2 : i < j * rwM A
    · rw [if_pos h2, if_pos (by omega)]
    · rw [if_neg h2, if_neg (by omega)]
/-- What the loop of Reverse keeps. -/
structure Kv (w : World) (A : Ar) (g gb h j : Nat) (W : World) : Prop where
  bel : Below w.heap.size w W
  res : R5 W (w.heap.size + 1) 0 0 0 0 (.slice none 0 0)
  bx : R5 W gb A.k A.r A.a A.b (.slice (some ⟨g, 0, none⟩) A.z.length A.z.length)
  list : W.rowIs h 41 (rwN A) (rp (some ⟨g, 0, none⟩) (rwM A))
  row : rowZ W g A.z.length (rvR A j)
theorem Kv.next {w W W' : World} {A : Ar} {g gb h j : Nat} (k : Kv w A g gb h j W) (h1 : w.heap.size + 1 < g) (h2 : gb ≠ g) (h3 : h ≠ g) (hj : j < rwN A) (hb : But g W W')
    (hr : rowZ W' g A.z.length (fun i => if j * rwM A ≤ i ∧ i < j * rwM A + rwM A then rvR A j (j * rwM A + (rwM A - 1 - (i - j * rwM A))) else rvR A j i)) : Kv w A g gb h (j + 1) W' :=
  ⟨k.bel.trans (hb.below (by omega)), (hb.block _ (by omega)).trans k.res, (hb.block _ h2).trans k.bx, k.list.of_block (hb.block _ h3), hr.congr fun i _ => rvR_next hj i⟩
theorem rv_ok {A : Ar} (h : rvE A = 0) : Good A ∧ (A.r = 1 ∨ A.r = 2) := by
  obtain ⟨h1, h2, h3⟩ := one_ok h
  exact ⟨h1, by omega⟩

set_option maxRecDepth 100000 in
set_option maxHeartbeats 8000000 in
theorem mreverse_any (A : Ar) (v : Value) (w : World) (hw : Ru.Lay w) (hv : RdI w.heap.size w v A.z) (hl : A.z.length ≤ 1000000) :
    Calls Tryz.prog 51 #[A5 A.k A.r A.a A.b v] w (RetE (rvV A) (rvE A) w) := by
  have HFa := Lib.hid (fun W g hg h1 h2 => fault1_any A v 1 2 W g hg h1 h2 hl)
  have HK := Lib.hid (MK1.new (A := A) hw hv)
  have x0 := HK.out.box.c0; have x1 := HK.out.box.c1; have x2 := HK.out.box.c2; have x3 := HK.out.box.c3; have x4 := HK.out.box.c4
  obtain ⟨p, cap, rfl, hcap, hcap2, hcell⟩ := hv
  clear hcell hw
  have HFa2 : Hid (∀ W g, W.heap.size = g → Ru.Lay W → RdI W.heap.size W (.slice p A.z.length cap) A.z → Calls Tryz.prog 105 #[.slice (some ⟨g, 0, none⟩) 1 1] (W.alloc (.cells #[.int .i64 A.k, .int .i64 A.r, .int .i64 A.a, .int .i64 A.b, .slice p A.z.length cap, .int .i64 A.k, .int .i64 1, .int .i64 2] 102)) fun e w' => e = .returned (.int .i64 (rvE A)) ∧ Below W.heap.size W w') := HFa.out
  clear HFa
  have HFa := HFa2
  clear HFa2
  unfold rvV
  by_cases h1 : rvE A = 0
  · obtain ⟨hA, hr⟩ := rv_ok h1
    have HMk := Lib.hid (fun W h1 h2 => make_ok (good_ck hA) (.slice p A.z.length cap) W h1 h2 hl)
    have HRw := Lib.hid (fun g W => mrows_ok hA hr g 0 A.z.length W (Nat.le_refl _) (by omega))
    obtain ⟨_, _, r2, r3, r4⟩ := rw_good hA
    have HLen := Lib.hid (rvZ_len hA)
    rw [orNo_yes h1, h1]
    rw [h1] at HFa
    clear h1 hA hr
    go_enter Tryz.func51, Tryz.ntmps51
    go_wp2_with (first
      | (go_at_call 105; (with_reducible refine (HFa.out _ _ (by first | rfl | simp) HK.out.lay HK.out.rdn).mono ?_); rintro e w1 ⟨rfl, hb⟩; have HK2 := Lib.hid (HK.out.next hb); clear HK x0 x1 x2 x3 x4; have HK := HK2; clear HK2; have x0 := HK.out.box.c0; have x1 := HK.out.box.c1; have x2 := HK.out.box.c2; have x3 := HK.out.box.c3; have x4 := HK.out.box.c4; clear hb)
      | (go_at_call 107; (with_reducible refine (HMk.out _ HK.out.lay HK.out.rdn).mono ?_); rintro e w2 ⟨g, rfl, hg1, hg2, hrow, hb⟩; have hgs : w.heap.size + 1 < g := (by have := HK.out.sz; omega); have HRow := Lib.hid (hrow.alloc (.cells #[.int .i64 A.k, .int .i64 A.r, .int .i64 A.a, .int .i64 A.b, .slice (some ⟨g, 0, none⟩) A.z.length A.z.length] 43)); have HBx := Lib.hid (R5.new w2 A.k A.r A.a A.b (.slice (some ⟨g, 0, none⟩) A.z.length A.z.length)); have HK2 := Lib.hid ((HK.out.next hb).next (bel1 w2 (.cells #[.int .i64 A.k, .int .i64 A.r, .int .i64 A.a, .int .i64 A.b, .slice (some ⟨g, 0, none⟩) A.z.length A.z.length] 43))); clear HK x0 x1 x2 x3 x4; have HK := HK2; clear HK2; clear hb hrow hg1; have x0 := HK.out.box.c0; have x1 := HK.out.box.c1; have x2 := HK.out.box.c2; have x3 := HK.out.box.c3; have x4 := HK.out.box.c4; have b0 := HBx.out.c0; have b1 := HBx.out.c1; have b2 := HBx.out.c2; have b3 := HBx.out.c3; have b4 := HBx.out.c4)
      | (go_at_call 108; (with_reducible refine (HRw.out _ _).mono ?_); rintro e w3 ⟨h, rfl, hh, hlist, hb⟩; have HRow3 := Lib.hid (HRow.out.of_block (hb.block g (by simp; omega))); have hhg : h ≠ g := (by simp at hh; omega); have HBx3 := Lib.hid (HBx.out.next hb); have HLs := Lib.hid hlist; have HK2 := Lib.hid (HK.out.next hb); clear HK x0 x1 x2 x3 x4; have HK := HK2; clear HK2; have x0 := HK.out.box.c0; have x1 := HK.out.box.c1; have x2 := HK.out.box.c2; have x3 := HK.out.box.c3; have x4 := HK.out.box.c4; clear hb hlist hh b0 b1 b2 b3 b4 HRow HBx))
    have HKv : Hid (Kv w A g w2.heap.size h 0 w3) := ⟨HK.out.bel, HK.out.res, HBx3.out, HLs.out, HRow3.out.congr fun i _ => by unfold rvR; rw [Nat.zero_mul, if_neg (by omega)]⟩
    have hgb : w2.heap.size ≠ g := by omega
    clear HK HRow3 HBx3 HLs x0 x1 x2 x3 x4
    obtain ⟨n, hn⟩ : ∃ n, rwN A = n := ⟨_, rfl⟩
    have HN := Lib.hid hn
    rw [hn] at r2 r3 ⊢
    clear hn
    go_loopg [34] n (fun gk i wr => ∃ j : Nat, j + gk = n ∧ i = .int .i64 j ∧ Kv w A g w2.heap.size h j wr)
    case atStart => exact ⟨0, by omega, rfl, HKv.out⟩
    case round =>
      obtain ⟨j, hjg, rfl, hk⟩ := hrel
      have HV := Lib.hid hk
      clear hk HKv
      cases gk with
      | zero =>
        have hjz : ¬ ((j : Int) < (n : Int)) := by omega
        have HF : Hid (rowZ wr g A.z.length (fun i => (rvZ A).getD i 0)) := HV.out.row.congr fun i hi => by unfold rvR; rw [if_pos (by rw [show j = n by omega, r2]; exact hi)]
        have b0 := HV.out.bx.c0; have b1 := HV.out.bx.c1; have b2 := HV.out.bx.c2; have b3 := HV.out.bx.c3; have b4 := HV.out.bx.c4
        have y0 := HV.out.res.c0; have y1 := HV.out.res.c1; have y2 := HV.out.res.c2; have y3 := HV.out.res.c3; have y4 := HV.out.res.c4; have f0 := HV.out.res.fr 0; have f1 := HV.out.res.fr 1; have f2 := HV.out.res.fr 2; have f3 := HV.out.res.fr 3; have f4 := HV.out.res.fr 4; have HS := Lib.hid (HV.out.res.set A.k A.r A.a A.b (.slice (some ⟨g, 0, none⟩) A.z.length A.z.length)); have z0 := HS.out.c0; have z1 := HS.out.c1; have z2 := HS.out.c2; have z3 := HS.out.c3; have z4 := HS.out.c4
        go_wp2
        refine bodyPost_ret (v := .tuple #[A5 A.k A.r A.a A.b (.slice (some ⟨g, 0, none⟩) A.z.length A.z.length), .int .i64 0]) (by simp [results, Tryz.results51, go_sem, z0, z1, z2, z3, z4]) rfl ?_
        exact ⟨_, rfl, zf_new HLen.out (World.rowIs.of_block HF.out.zf (st5_other _ _ _ _ _ (by omega))) hl (by omega), st5_below _ _ _ _ _ (by omega) HV.out.bel⟩
      | succ g2 =>
        have hjz : (j : Int) < (n : Int) := by omega
        have hj : j < n := by omega
        have hle := Nat.mul_le_mul_right (rwM A) (show j + 1 ≤ n by omega)
        rw [Nat.add_mul, Nat.one_mul] at hle
        have x0 : wr.cell? ⟨h, j, none⟩ = some (.slice (some ⟨g, 0 + j * rwM A, none⟩) (rwM A) (rwM A)) := by rw [HV.out.list.cell (by rw [HN.out]; exact hj), rp_some]
        rw [Nat.zero_add] at x0
        have HRv := Lib.hid (reverse_any g (j * rwM A) (rwM A) A.z.length (rvR A j) wr HV.out.row (by omega) hl)
        have hw0 : IntKind.i64.wrap ((j : Int) + 1) = (j : Int) + 1 := by rw [IntKind.wrap_i64]; omega
        go_wp2_with (go_at_call 109; (with_reducible refine HRv.out.mono ?_); rintro e w4 ⟨rfl, hrow, hbut⟩; have HV4 := Lib.hid (HV.out.next hgs hgb hhg (by rw [HN.out]; exact hj) hbut hrow); clear hrow hbut)
        go_roundg g2
        case measure => omega
        case rel => exact ⟨j + 1, by omega, by go_num, HV4.out⟩
  · rw [orNo_no h1]
    generalize rvE A = E at h1 HFa ⊢
    have k1 : (E != 0) = true := by simpa using h1
    clear h1
    go_enter Tryz.func51, Tryz.ntmps51
    go_wp2_with (go_at_call 105; (with_reducible refine (HFa.out _ _ (by first | rfl | simp) HK.out.lay HK.out.rdn).mono ?_); rintro e w1 ⟨rfl, hb⟩; have HK2 := Lib.hid (HK.out.next hb); clear HK x0 x1 x2 x3 x4; have HK := HK2; clear HK2; have x0 := HK.out.box.c0; have x1 := HK.out.box.c1; have x2 := HK.out.box.c2; have x3 := HK.out.box.c3; have x4 := HK.out.box.c4; clear hb; have y0 := HK.out.res.c0; have y1 := HK.out.res.c1; have y2 := HK.out.res.c2; have y3 := HK.out.res.c3; have y4 := HK.out.res.c4; have f0 := HK.out.res.fr 0; have f1 := HK.out.res.fr 1; have f2 := HK.out.res.fr 2; have f3 := HK.out.res.fr 3; have f4 := HK.out.res.fr 4; have HS := Lib.hid (HK.out.res.set 0 0 0 0 (.slice none 0 0)); have z0 := HS.out.c0; have z1 := HS.out.c1; have z2 := HS.out.c2; have z3 := HS.out.c3; have z4 := HS.out.c4)
    exact bodyPost_ret (v := .tuple #[A5 0 0 0 0 (.slice none 0 0), .int .i64 E]) (by simp [results, Tryz.results51, go_sem, z0, z1, z2, z3, z4]) rfl (retE_no _ (st5_below _ _ _ _ _ (by omega) HK.out.bel))
end Go.Proofs.YtpbfbejckhbijaaGreatDoor
namespace Go.Proofs.YtpbfbejckhbijaaGreatDoor
open Go.RowKit

/-- Cells of the flipped matrix, as far as they have been written. -/
def flF (A : Ar) (i j x : Nat) : Int := if x % rwN A < i ∨ (x % rwN A = i ∧ x / rwN A < j) then (fpZ A).getD x 0 else 0
theorem flF_zero (A : Ar) (x : Nat) : flF A 0 0 x = 0 := by unfold flF; rw [if_neg (by rintro (h | ⟨_, h⟩) <;> exact absurd h (Nat.not_lt_zero _))]
theorem flF_all {A : Ar} {i x : Nat} (hx : x < rwM A * rwN A) (hi : rwN A ≤ i) : flF A i 0 x = (fpZ A).getD x 0 := by
  obtain ⟨h1, h2, _⟩ := split_lt hx
  unfold flF
  rw [if_pos (.inl (by omega))]
theorem flF_outer {A : Ar} {i j x : Nat} (hx : x < rwM A * rwN A) (hj : rwM A ≤ j) : flF A i j x = flF A (i + 1) 0 x := by
  obtain ⟨h1, h2, _⟩ := split_lt hx
  unfold flF
  generalize x % rwN A = r at h2 ⊢
  generalize x / rwN A = q at h1 ⊢
  by_cases h : r < i + 1
  · rw [if_pos (by omega), if_pos (.inl h)]
  · rw [if_neg (by omega), if_neg (by omega)]
theorem flF_inner {A : Ar} {i j x : Nat} (hi : i < rwN A) (hj : j < rwM A) : (if x = j * rwN A + i then A.z.getD (i * rwM A + j) 0 else flF A i j x) = flF A i (j + 1) x := by
  by_cases h : x = j * rwN A + i
  · subst h
    rw [if_pos rfl]
    unfold flF
    rw [div_at hi, mod_at hi, if_pos (by omega)]
    unfold fpZ
    rw [gl_at hj hi]
  · rw [if_neg h]
    unfold flF
    have hne : ¬ (x % rwN A = i ∧ x / rwN A = j) := by
      rintro ⟨e1, e2⟩
      have := Nat.div_add_mod x (rwN A)
      rw [e1, e2, Nat.mul_comm] at this
      exact h this.symm
    by_cases h2 : x % rwN A < i ∨ (x % rwN A = i ∧ x / rwN A < j)
    · rw [if_pos h2, if_pos (by omega)]
    · rw [if_neg h2, if_neg (by omega)]
/-- What the loops of Flip keep. -/
structure Kf (w : World) (A : Ar) (v : Value) (g gb h1 h2 : Nat) (p : Option Addr) (i j : Nat) (W : World) : Prop where
  bel : Below w.heap.size w W
  res : R5 W (w.heap.size + 1) 0 0 0 0 (.slice none 0 0)
  bx : R5 W gb A.k 2 A.b A.a (.slice (some ⟨g, 0, none⟩) A.z.length A.z.length)
  l1 : W.rowIs h1 41 (rwM A) (rp (some ⟨g, 0, none⟩) (rwN A))
  l2 : W.rowIs h2 41 (rwN A) (rp p (rwM A))
  rd : RdI w.heap.size W v A.z
  row : rowZ W g A.z.length (flF A i j)
theorem Kf.inner {w W : World} {A : Ar} {v : Value} {g gb h1 h2 : Nat} {p : Option Addr} {i j : Nat} (k : Kf w A v g gb h1 h2 p i j W) (q1 : w.heap.size + 1 < g) (q2 : gb ≠ g) (q3 : h1 ≠ g) (q4 : h2 ≠ g) (hi : i < rwN A) (hj : j < rwM A) :
    Kf w A v g gb h1 h2 p i (j + 1) (W.setCell ⟨g, j * rwN A + i, none⟩ (.int .i64 (A.z.getD (i * rwM A + j) 0))) := by
  have hb : But g W (W.setCell ⟨g, j * rwN A + i, none⟩ (.int .i64 (A.z.getD (i * rwM A + j) 0))) := (But.refl _ _).setCell _ _
  exact ⟨k.bel.trans (hb.below (by omega)), (hb.block _ (by omega)).trans k.res, (hb.block _ q2).trans k.bx, k.l1.of_block (hb.block _ q3), k.l2.of_block (hb.block _ q4), k.rd.below (hb.below (by omega)), (k.row.put _ _).congr fun x _ => flF_inner hi hj⟩
theorem Kf.outer {w W : World} {A : Ar} {v : Value} {g gb h1 h2 : Nat} {p : Option Addr} {i j : Nat} (k : Kf w A v g gb h1 h2 p i j W) (hj : rwM A ≤ j) (_ : i < rwN A) (hA : A.z.length = rwN A * rwM A) : Kf w A v g gb h1 h2 p (i + 1) 0 W :=
  ⟨k.bel, k.res, k.bx, k.l1, k.l2, k.rd, k.row.congr fun x hx => flF_outer (by rw [Nat.mul_comm, ← hA]; exact hx) hj⟩
theorem fp_ok {A : Ar} (h : fpEE A = 0) : Good A ∧ A.r = 2 := by
  obtain ⟨h1, h2, h3⟩ := one_ok h
  exact ⟨h1, by omega⟩
theorem fp_blank {A : Ar} (h : Good A) (hr : A.r = 2) : ck ⟨A.k, 2, A.b, A.a, List.replicate A.z.length 0⟩ = 0 ∧ (if (2 : Int) = 2 then A.b * A.a else A.b) = (A.z.length : Int) := by
  obtain ⟨k, r, a, b, z⟩ := A
  simp only at hr
  subst hr
  have hs := h.sh
  have hl := h.len
  simp only at hs hl
  have e : (z.length : Int) = b * a := by rw [hl, Int.mul_comm]; simp [cn]
  cases hs with
  | s2 _ _ h0 h1 h2 h3 h4 =>
    refine ⟨ck_mat h.kind (Sh.s2 b a h2 h3 h0 h1 (by rw [Int.mul_comm]; exact h4)) (by rw [List.length_replicate]; exact e) (fun _ => zeros_all _), ?_⟩
    rw [if_pos rfl]; exact e.symm

set_option maxRecDepth 100000 in
set_option maxHeartbeats 16000000 in
theorem mflip_any (A : Ar) (v : Value) (w : World) (hw : Ru.Lay w) (hv : RdI w.heap.size w v A.z) (hn : Ru.NilC v) (hl : A.z.length ≤ 1000000) :
    Calls Tryz.prog 52 #[A5 A.k A.r A.a A.b v] w (RetE (fpV A) (fpEE A) w) := by
  have HFa : Hid (∀ W g, W.heap.size = g → Ru.Lay W → RdI W.heap.size W v A.z → Calls Tryz.prog 105 #[.slice (some ⟨g, 0, none⟩) 1 1] (W.alloc (.cells #[.int .i64 A.k, .int .i64 A.r, .int .i64 A.a, .int .i64 A.b, v, .int .i64 A.k, .int .i64 2, .int .i64 2] 102)) fun e w' => e = .returned (.int .i64 (fpEE A)) ∧ Below W.heap.size W w') := fun W g hg h1 h2 => fault1_any A v 2 2 W g hg h1 h2 hl
  have HK := Lib.hid (MK1.new (A := A) hw hv)
  have x0 := HK.out.box.c0; have x1 := HK.out.box.c1; have x2 := HK.out.box.c2; have x3 := HK.out.box.c3; have x4 := HK.out.box.c4
  unfold fpV
  by_cases h1 : fpEE A = 0
  · obtain ⟨hA, hr⟩ := fp_ok h1
    obtain ⟨hb1, hb2⟩ := fp_blank hA hr
    obtain ⟨a1, a2, r2, r3, r4⟩ := rw_mat hA hr
    obtain ⟨p, cap, rfl, hRa⟩ := mrows_any A v w hA (.inr hr) hv hn
    have HRa := Lib.hid hRa
    have HBl := Lib.hid (fun W hw => blank_ok hb1 W hw hb2 hl)
    have HRb : Hid (∀ g W, Calls Tryz.prog 108 #[A5 A.k 2 A.b A.a (.slice (some ⟨g, 0, none⟩) A.z.length A.z.length)] W fun e w' => ∃ h, e = .returned (.slice (some ⟨h, 0, none⟩) (rwM A) (rwM A)) ∧ W.heap.size ≤ h ∧ w'.rowIs h 41 (rwM A) (rp (some ⟨g, 0, none⟩) (rwN A)) ∧ Below W.heap.size W w') := fun g W => by
      rw [a1, a2]
      exact mrows2_any A.k (rwM A) (rwN A) A.z.length _ _ W (by rw [Nat.mul_comm]; exact r2.symm) r4 r3 (Nat.le_refl _) (by omega) (fun _ => ⟨g, 0, rfl⟩) (fun e => by cases e)
    have HLen := Lib.hid (fpZ_len hA)
    have r2' := r2.symm
    clear r2
    have r2 := r2'
    clear r2'
    rw [orNo_yes h1, h1]
    rw [h1] at HFa
    clear h1 hA hr hRa hb1 hb2 a1 a2 hn
    have hcap : A.z.length ≤ cap ∧ cap ≤ 9223372036854775807 := by obtain ⟨_, _, e, h1, h2, _⟩ := hv; cases e; exact ⟨h1, h2⟩
    obtain ⟨hcap1, hcap2⟩ := hcap
    rcases p with _ | ⟨b0, off, sp⟩
    · have hz0 : Hid (A.z.length = 0) := by
        obtain ⟨_, _, e, _, _, h3⟩ := hv
        cases e
        rcases Nat.eq_zero_or_pos A.z.length with h | h
        · exact h
        · obtain ⟨_, _, e, _⟩ := h3 (List.length_pos_iff.1 h)
          cases e
      clear hv hw
      go_enter Tryz.func52, Tryz.ntmps52
      go_wp2_with (first
        | (go_at_call 105; (with_reducible refine (HFa.out _ _ (by first | rfl | simp) HK.out.lay HK.out.rdn).mono ?_); rintro e w1 ⟨rfl, hb⟩; have HK2 := Lib.hid (HK.out.next hb); clear HK x0 x1 x2 x3 x4; have HK := HK2; clear HK2; have x0 := HK.out.box.c0; have x1 := HK.out.box.c1; have x2 := HK.out.box.c2; have x3 := HK.out.box.c3; have x4 := HK.out.box.c4; clear hb)
        | (go_at_call 110; (with_reducible refine (HBl.out _ HK.out.lay).mono ?_); rintro e w2 ⟨g, rfl, hg1, hg2, hrow, hb⟩; have hgs : w.heap.size + 1 < g := (by have := HK.out.sz; omega); have HRow := Lib.hid (hrow.alloc (.cells #[.int .i64 A.k, .int .i64 2, .int .i64 A.b, .int .i64 A.a, .slice (some ⟨g, 0, none⟩) A.z.length A.z.length] 43)); have HBx := Lib.hid (R5.new w2 A.k 2 A.b A.a (.slice (some ⟨g, 0, none⟩) A.z.length A.z.length)); have HK2 := Lib.hid ((HK.out.next hb).next (bel1 w2 (.cells #[.int .i64 A.k, .int .i64 2, .int .i64 A.b, .int .i64 A.a, .slice (some ⟨g, 0, none⟩) A.z.length A.z.length] 43))); clear HK x0 x1 x2 x3 x4; have HK := HK2; clear HK2; clear hb hrow hg1; have x0 := HK.out.box.c0; have x1 := HK.out.box.c1; have x2 := HK.out.box.c2; have x3 := HK.out.box.c3; have x4 := HK.out.box.c4; have b0 := HBx.out.c0; have b1 := HBx.out.c1; have b2 := HBx.out.c2; have b3 := HBx.out.c3; have b4 := HBx.out.c4)
        | (go_at_call 108; (with_reducible refine (HRb.out _ _).mono ?_); rintro e w3 ⟨h1, rfl, hh, hlist, hb⟩; have HRow3 := Lib.hid (HRow.out.of_block (hb.block g (by simp; omega))); have hh1 : h1 ≠ g := (by simp at hh; omega); have hlt1 : h1 < w3.heap.size := hlist.lt; have HBx3 := Lib.hid (HBx.out.next hb); have HL1 := Lib.hid hlist; have hs3 := hb.size; have HK2 := Lib.hid (HK.out.next hb); clear HK x0 x1 x2 x3 x4; have HK := HK2; clear HK2; have x0 := HK.out.box.c0; have x1 := HK.out.box.c1; have x2 := HK.out.box.c2; have x3 := HK.out.box.c3; have x4 := HK.out.box.c4; clear hb hlist hh b0 b1 b2 b3 b4 HRow HBx)
        | (go_at_call 108; (with_reducible refine (HRa.out _).mono ?_); rintro e w4 ⟨h2, rfl, hh, hlist, hb⟩; have HRow4 := Lib.hid (HRow3.out.of_block (hb.block g (by simp at hs3; omega))); have hh2 : h2 ≠ g := (by simp at hs3; omega); have HBx4 := Lib.hid (HBx3.out.next hb); have HL1b := Lib.hid (HL1.out.of_block (hb.block h1 hlt1)); have HL2 := Lib.hid hlist; have HK2 := Lib.hid (HK.out.next hb); clear HK x0 x1 x2 x3 x4; have HK := HK2; clear HK2; have x0 := HK.out.box.c0; have x1 := HK.out.box.c1; have x2 := HK.out.box.c2; have x3 := HK.out.box.c3; have x4 := HK.out.box.c4; clear hb hlist hh HRow3 HBx3 HL1))
      have HKf : Hid (Kf w A (.slice none A.z.length cap) g w2.heap.size h1 h2 none 0 0 w4) := ⟨HK.out.bel, HK.out.res, HBx4.out, HL1b.out, HL2.out, HK.out.rd, HRow4.out.congr fun x _ => by rw [flF_zero]⟩
      have hgb : w2.heap.size ≠ g := by omega
      clear HK HRow4 HBx4 HL1b HL2 x0 x1 x2 x3 x4
      obtain ⟨n, hn⟩ : ∃ n, rwN A = n := ⟨_, rfl⟩
      obtain ⟨m, hm⟩ : ∃ m, rwM A = m := ⟨_, rfl⟩
      have HN := Lib.hid hn
      have HM := Lib.hid hm
      rw [hn] at r2 r3 ⊢
      rw [hm] at r2 r4 ⊢
      clear hn hm
      go_loopg [40] n (fun gk q wr => ∃ i : Nat, i + gk = n ∧ q = .int .i64 i ∧ Kf w A (.slice none A.z.length cap) g w2.heap.size h1 h2 none i 0 wr)
      case atStart => exact ⟨0, by omega, rfl, HKf.out⟩
      case round =>
        obtain ⟨i, hig, rfl, hk⟩ := hrel
        have HV := Lib.hid hk
        clear hk HKf
        cases gk with
        | zero =>
          have hiz : ¬ ((i : Int) < (n : Int)) := by omega
          have HF : Hid (rowZ wr g A.z.length (fun x => (fpZ A).getD x 0)) := HV.out.row.congr fun x hx => flF_all (by rw [HN.out, HM.out, Nat.mul_comm, r2]; exact hx) (by rw [HN.out]; omega)
          have b0 := HV.out.bx.c0; have b1 := HV.out.bx.c1; have b2 := HV.out.bx.c2; have b3 := HV.out.bx.c3; have b4 := HV.out.bx.c4
          have y0 := HV.out.res.c0; have y1 := HV.out.res.c1; have y2 := HV.out.res.c2; have y3 := HV.out.res.c3; have y4 := HV.out.res.c4; have f0 := HV.out.res.fr 0; have f1 := HV.out.res.fr 1; have f2 := HV.out.res.fr 2; have f3 := HV.out.res.fr 3; have f4 := HV.out.res.fr 4; have HS := Lib.hid (HV.out.res.set A.k 2 A.b A.a (.slice (some ⟨g, 0, none⟩) A.z.length A.z.length)); have z0 := HS.out.c0; have z1 := HS.out.c1; have z2 := HS.out.c2; have z3 := HS.out.c3; have z4 := HS.out.c4
          go_wp2
          refine bodyPost_ret (v := .tuple #[A5 A.k 2 A.b A.a (.slice (some ⟨g, 0, none⟩) A.z.length A.z.length), .int .i64 0]) (by simp [results, Tryz.results52, go_sem, z0, z1, z2, z3, z4]) rfl ?_
          exact ⟨_, rfl, zf_new HLen.out (World.rowIs.of_block HF.out.zf (st5_other _ _ _ _ _ (by omega))) hl (by omega), st5_below _ _ _ _ _ (by omega) HV.out.bel⟩
        | succ g2 =>
          have hiz : (i : Int) < (n : Int) := by omega
          have hi : i < n := by omega
          have hwi : IntKind.i64.wrap ((i : Int) + 1) = (i : Int) + 1 := by rw [IntKind.wrap_i64]; omega
          have x0 : wr.cell? ⟨h2, i, none⟩ = some (.slice none 0 0) := by rw [HV.out.l2.cell (by rw [HN.out]; exact hi)]; rfl
          have hm0 : m = 0 := by rcases Nat.eq_zero_or_pos m with e | e; (exact e); (exfalso; have := Nat.mul_pos (show 0 < n by omega) e; have := hz0.out; omega)
          go_wp2
          refine wp_loop_rounds 4 ?_
          rw [rounds_succ]
          have HVn : Hid (Kf w A (.slice none A.z.length cap) g w2.heap.size h1 h2 none (i + 1) 0 wr) := HV.out.outer (by rw [HM.out, hm0]; exact Nat.le_refl _) (by rw [HN.out]; exact hi) (by rw [HN.out, HM.out]; exact r2.symm)
          go_wp2
          go_roundg g2
          case measure => omega
          case rel => exact ⟨i + 1, by omega, by go_num, HVn.out⟩
    · clear hv hw
      go_enter Tryz.func52, Tryz.ntmps52
      go_wp2_with (first
        | (go_at_call 105; (with_reducible refine (HFa.out _ _ (by first | rfl | simp) HK.out.lay HK.out.rdn).mono ?_); rintro e w1 ⟨rfl, hb⟩; have HK2 := Lib.hid (HK.out.next hb); clear HK x0 x1 x2 x3 x4; have HK := HK2; clear HK2; have x0 := HK.out.box.c0; have x1 := HK.out.box.c1; have x2 := HK.out.box.c2; have x3 := HK.out.box.c3; have x4 := HK.out.box.c4; clear hb)
        | (go_at_call 110; (with_reducible refine (HBl.out _ HK.out.lay).mono ?_); rintro e w2 ⟨g, rfl, hg1, hg2, hrow, hb⟩; have hgs : w.heap.size + 1 < g := (by have := HK.out.sz; omega); have HRow := Lib.hid (hrow.alloc (.cells #[.int .i64 A.k, .int .i64 2, .int .i64 A.b, .int .i64 A.a, .slice (some ⟨g, 0, none⟩) A.z.length A.z.length] 43)); have HBx := Lib.hid (R5.new w2 A.k 2 A.b A.a (.slice (some ⟨g, 0, none⟩) A.z.length A.z.length)); have HK2 := Lib.hid ((HK.out.next hb).next (bel1 w2 (.cells #[.int .i64 A.k, .int .i64 2, .int .i64 A.b, .int .i64 A.a, .slice (some ⟨g, 0, none⟩) A.z.length A.z.length] 43))); clear HK x0 x1 x2 x3 x4; have HK := HK2; clear HK2; clear hb hrow hg1; have x0 := HK.out.box.c0; have x1 := HK.out.box.c1; have x2 := HK.out.box.c2; have x3 := HK.out.box.c3; have x4 := HK.out.box.c4; have b0 := HBx.out.c0; have b1 := HBx.out.c1; have b2 := HBx.out.c2; have b3 := HBx.out.c3; have b4 := HBx.out.c4)
        | (go_at_call 108; (with_reducible refine (HRb.out _ _).mono ?_); rintro e w3 ⟨h1, rfl, hh, hlist, hb⟩; have HRow3 := Lib.hid (HRow.out.of_block (hb.block g (by simp; omega))); have hh1 : h1 ≠ g := (by simp at hh; omega); have hlt1 : h1 < w3.heap.size := hlist.lt; have HBx3 := Lib.hid (HBx.out.next hb); have HL1 := Lib.hid hlist; have hs3 := hb.size; have HK2 := Lib.hid (HK.out.next hb); clear HK x0 x1 x2 x3 x4; have HK := HK2; clear HK2; have x0 := HK.out.box.c0; have x1 := HK.out.box.c1; have x2 := HK.out.box.c2; have x3 := HK.out.box.c3; have x4 := HK.out.box.c4; clear hb hlist hh b0 b1 b2 b3 b4 HRow HBx)
        | (go_at_call 108; (with_reducible refine (HRa.out _).mono ?_); rintro e w4 ⟨h2, rfl, hh, hlist, hb⟩; have HRow4 := Lib.hid (HRow3.out.of_block (hb.block g (by simp at hs3; omega))); have hh2 : h2 ≠ g := (by simp at hs3; omega); have HBx4 := Lib.hid (HBx3.out.next hb); have HL1b := Lib.hid (HL1.out.of_block (hb.block h1 hlt1)); have HL2 := Lib.hid hlist; have HK2 := Lib.hid (HK.out.next hb); clear HK x0 x1 x2 x3 x4; have HK := HK2; clear HK2; have x0 := HK.out.box.c0; have x1 := HK.out.box.c1; have x2 := HK.out.box.c2; have x3 := HK.out.box.c3; have x4 := HK.out.box.c4; clear hb hlist hh HRow3 HBx3 HL1))
      have HKf : Hid (Kf w A (.slice (some ⟨b0, off, sp⟩) A.z.length cap) g w2.heap.size h1 h2 (some ⟨b0, off, sp⟩) 0 0 w4) := ⟨HK.out.bel, HK.out.res, HBx4.out, HL1b.out, HL2.out, HK.out.rd, HRow4.out.congr fun x _ => by rw [flF_zero]⟩
      have hgb : w2.heap.size ≠ g := by omega
      clear HK HRow4 HBx4 HL1b HL2 x0 x1 x2 x3 x4
      obtain ⟨n, hn⟩ : ∃ n, rwN A = n := ⟨_, rfl⟩
      obtain ⟨m, hm⟩ : ∃ m, rwM A = m := ⟨_, rfl⟩
      have HN := Lib.hid hn
      have HM := Lib.hid hm
      rw [hn] at r2 r3 ⊢
      rw [hm] at r2 r4 ⊢
      clear hn hm
      go_loopg [40] n (fun gk q wr => ∃ i : Nat, i + gk = n ∧ q = .int .i64 i ∧ Kf w A (.slice (some ⟨b0, off, sp⟩) A.z.length cap) g w2.heap.size h1 h2 (some ⟨b0, off, sp⟩) i 0 wr)
      case atStart => exact ⟨0, by omega, rfl, HKf.out⟩
      case round =>
        obtain ⟨i, hig, rfl, hk⟩ := hrel
        have HV := Lib.hid hk
        clear hk HKf
        cases gk with
        | zero =>
          have hiz : ¬ ((i : Int) < (n : Int)) := by omega
          have HF : Hid (rowZ wr g A.z.length (fun x => (fpZ A).getD x 0)) := HV.out.row.congr fun x hx => flF_all (by rw [HN.out, HM.out, Nat.mul_comm, r2]; exact hx) (by rw [HN.out]; omega)
          have b0 := HV.out.bx.c0; have b1 := HV.out.bx.c1; have b2 := HV.out.bx.c2; have b3 := HV.out.bx.c3; have b4 := HV.out.bx.c4
          have y0 := HV.out.res.c0; have y1 := HV.out.res.c1; have y2 := HV.out.res.c2; have y3 := HV.out.res.c3; have y4 := HV.out.res.c4; have f0 := HV.out.res.fr 0; have f1 := HV.out.res.fr 1; have f2 := HV.out.res.fr 2; have f3 := HV.out.res.fr 3; have f4 := HV.out.res.fr 4; have HS := Lib.hid (HV.out.res.set A.k 2 A.b A.a (.slice (some ⟨g, 0, none⟩) A.z.length A.z.length)); have z0 := HS.out.c0; have z1 := HS.out.c1; have z2 := HS.out.c2; have z3 := HS.out.c3; have z4 := HS.out.c4
          go_wp2
          refine bodyPost_ret (v := .tuple #[A5 A.k 2 A.b A.a (.slice (some ⟨g, 0, none⟩) A.z.length A.z.length), .int .i64 0]) (by simp [results, Tryz.results52, go_sem, z0, z1, z2, z3, z4]) rfl ?_
          exact ⟨_, rfl, zf_new HLen.out (World.rowIs.of_block HF.out.zf (st5_other _ _ _ _ _ (by omega))) hl (by omega), st5_below _ _ _ _ _ (by omega) HV.out.bel⟩
        | succ g2 =>
          have hiz : (i : Int) < (n : Int) := by omega
          have hi : i < n := by omega
          have hwi : IntKind.i64.wrap ((i : Int) + 1) = (i : Int) + 1 := by rw [IntKind.wrap_i64]; omega
          have x0 : wr.cell? ⟨h2, i, none⟩ = some (.slice (some ⟨b0, off + i * m, sp⟩) m m) := by rw [HV.out.l2.cell (by rw [HN.out]; exact hi), HM.out]; rfl
          have hle := Nat.mul_le_mul_right m (show i + 1 ≤ n by omega)
          rw [Nat.add_mul, Nat.one_mul] at hle
          go_wp2
          clear x0
          go_loopg [47] m (fun gk q wr => ∃ j : Nat, j + gk = m ∧ q = .int .i64 j ∧ Kf w A (.slice (some ⟨b0, off, sp⟩) A.z.length cap) g w2.heap.size h1 h2 (some ⟨b0, off, sp⟩) i j wr)
          case atStart => exact ⟨0, by omega, rfl, HV.out⟩
          case round =>
            obtain ⟨j, hjg, rfl, hk⟩ := hrel
            have HI := Lib.hid hk
            clear hk HV
            cases gk with
            | zero =>
              have hjz : ¬ ((j : Int) < (m : Int)) := by omega
              have HVn := Lib.hid (HI.out.outer (by rw [HM.out]; omega) (by rw [HN.out]; exact hi) (by rw [HN.out, HM.out]; exact r2.symm))
              go_wp2
              go_roundg g2
              case measure => omega
              case rel => exact ⟨i + 1, by omega, by go_num, HVn.out⟩
            | succ g3 =>
              have hjz : (j : Int) < (m : Int) := by omega
              have hj : j < m := by omega
              have hlt : i * m + j < A.z.length := by omega
              obtain ⟨b1, o1, he, hb1, hc⟩ := HI.out.rd.cells (by intro e; rw [e] at hlt; simp at hlt)
              cases he
              have x1 := hc (i * m + j) hlt
              have HVal : Hid ((A.z)[i * m + j] = A.z.getD (i * m + j) 0) := by unfold Hid; rw [List.getD_eq_getElem?_getD, List.getElem?_eq_getElem hlt]; rfl
              generalize (A.z)[i * m + j] = c at x1 HVal
              rw [← Nat.add_assoc] at x1
              clear hc
              have x2 : wr.cell? ⟨h1, j, none⟩ = some (.slice (some ⟨g, j * n, none⟩) n n) := by rw [HI.out.l1.cell (by rw [HM.out]; exact hj), HN.out, rp_some, Nat.zero_add]
              have hji := lt_at (m := n) hj hi
              have hmn : m * n = A.z.length := by rw [Nat.mul_comm]; exact r2
              have x3 : wr.cell? ⟨g, j * n + i, none⟩ = some (.int .i64 (flF A i j (j * n + i))) := HI.out.row.cell (by omega)
              have f3 : wr.frozen? ⟨g, j * n + i, none⟩ = false := HI.out.row.frozen _
              have HNx : Hid (Kf w A (.slice (some ⟨b0, off, none⟩) A.z.length cap) g w2.heap.size h1 h2 (some ⟨b0, off, none⟩) i (j + 1) (wr.setCell ⟨g, j * n + i, none⟩ (.int .i64 c))) := by rw [HVal.out, ← HN.out, ← HM.out]; exact HI.out.inner hgs hgb hh1 hh2 (by rw [HN.out]; exact hi) (by rw [HM.out]; exact hj)
              have hjm : (j : Int) < (m : Int) := by omega
              have hin : (i : Int) < (n : Int) := by omega
              have hw0 : IntKind.i64.wrap ((j : Int) + 1) = (j : Int) + 1 := by rw [IntKind.wrap_i64]; omega
              clear hji hmn hlt hle HVal
              go_wp2
              go_roundg g3
              case measure => omega
              case rel => exact ⟨j + 1, by omega, by go_num, HNx.out⟩
  · obtain ⟨p, cap, rfl, hcap, hcap2, hcell⟩ := hv
    clear hcell hw hn
    rw [orNo_no h1]
    generalize fpEE A = E at h1 HFa ⊢
    have k1 : (E != 0) = true := by simpa using h1
    clear h1
    go_enter Tryz.func52, Tryz.ntmps52
    go_wp2_with (go_at_call 105; (with_reducible refine (HFa.out _ _ (by first | rfl | simp) HK.out.lay HK.out.rdn).mono ?_); rintro e w1 ⟨rfl, hb⟩; have HK2 := Lib.hid (HK.out.next hb); clear HK x0 x1 x2 x3 x4; have HK := HK2; clear HK2; have x0 := HK.out.box.c0; have x1 := HK.out.box.c1; have x2 := HK.out.box.c2; have x3 := HK.out.box.c3; have x4 := HK.out.box.c4; clear hb; have y0 := HK.out.res.c0; have y1 := HK.out.res.c1; have y2 := HK.out.res.c2; have y3 := HK.out.res.c3; have y4 := HK.out.res.c4; have f0 := HK.out.res.fr 0; have f1 := HK.out.res.fr 1; have f2 := HK.out.res.fr 2; have f3 := HK.out.res.fr 3; have f4 := HK.out.res.fr 4; have HS := Lib.hid (HK.out.res.set 0 0 0 0 (.slice none 0 0)); have z0 := HS.out.c0; have z1 := HS.out.c1; have z2 := HS.out.c2; have z3 := HS.out.c3; have z4 := HS.out.c4)
    exact bodyPost_ret (v := .tuple #[A5 0 0 0 0 (.slice none 0 0), .int .i64 E]) (by simp [results, Tryz.results52, go_sem, z0, z1, z2, z3, z4]) rfl (retE_no _ (st5_below _ _ _ _ _ (by omega) HK.out.bel))
end Go.Proofs.YtpbfbejckhbijaaGreatDoor
namespace Go.Proofs.YtpbfbejckhbijaaGreatDoor
open Go.RowKit

theorem rdI_take {B : Nat} {w : World} {p : Option Addr} {n cap : Nat} {z : List Int} (h : RdI B w (.slice p n cap) z) (k : Nat) (hk : k ≤ z.length) : RdI B w (.slice p k cap) (z.take k) := by
  obtain ⟨p', cap', e, h1, h2, h3⟩ := h
  cases e
  have hl : (z.take k).length = k := by rw [List.length_take]; omega
  refine ⟨p, cap, by rw [hl], by rw [hl]; omega, h2, fun hne => ?_⟩
  obtain ⟨b, off, e, hb, hc⟩ := h3 (by intro e; rw [e] at hne; simp at hne)
  refine ⟨b, off, e, hb, fun j hj => ?_⟩
  rw [hl] at hj
  rw [hc j (by omega), List.getElem_take]
theorem rdI_drop {B : Nat} {w : World} {ad : Addr} {n cap : Nat} {z : List Int} (h : RdI B w (.slice (some ad) n cap) z) (k : Nat) (hk : k ≤ z.length) : RdI B w (.slice (some (ad.add k)) (z.length - k) (cap - k)) (z.drop k) := by
  obtain ⟨p', cap', e, h1, h2, h3⟩ := h
  cases e
  have hl : (z.drop k).length = z.length - k := by simp
  refine ⟨_, _, by rw [hl], by rw [hl]; omega, by omega, fun hne => ?_⟩
  have hlt : k < z.length := by
    rcases Nat.lt_or_ge k z.length with h | h
    · exact h
    · exact absurd (List.drop_eq_nil_of_le h) hne
  obtain ⟨b', off', e, hb, hc⟩ := h3 (by intro e; subst e; simp at hlt)
  cases e
  refine ⟨b', off' + k, by simp [Addr.add], hb, fun j hj => ?_⟩
  rw [hl] at hj
  rw [Nat.add_assoc, hc (k + j) (by omega), List.getElem_drop]
theorem rdI_none {B : Nat} {w : World} {p : Option Addr} {cap : Nat} (h : cap ≤ 9223372036854775807) : RdI B w (.slice p 0 cap) [] := ⟨p, cap, rfl, Nat.zero_le _, h, fun h => absurd rfl h⟩
/-- What a walk over two arrays keeps. -/
structure MC2 (w : World) (A : Ar) (v : Value) (B : Ar) (u : Value) (W : World) : Prop where
  bel : Below w.heap.size w W
  sz : w.heap.size + 2 ≤ W.heap.size
  boxA : R5 W w.heap.size A.k A.r A.a A.b v
  boxB : R5 W (w.heap.size + 1) B.k B.r B.a B.b u
  rdA : RdI w.heap.size W v A.z
  rdB : RdI w.heap.size W u B.z
  lay : Ru.Lay W
theorem MC2.far {w W W' : World} {A B : Ar} {v u : Value} (h : MC2 w A v B u W) (hb : Below (w.heap.size + 2) W W') (hl : Ru.Lay W') : MC2 w A v B u W' :=
  ⟨h.bel.trans (hb.mono (by omega)), Nat.le_trans h.sz hb.size, (hb.block _ (by omega)).trans h.boxA, (hb.block _ (by omega)).trans h.boxB, h.rdA.below (hb.mono (by omega)), h.rdB.below (hb.mono (by omega)), hl⟩
theorem MC2.next {w W W' : World} {A B : Ar} {v u : Value} (h : MC2 w A v B u W) (hb : Below W.heap.size W W') : MC2 w A v B u W' := h.far (hb.mono h.sz) (h.lay.next hb)
theorem MC2.rdnA {w W : World} {A B : Ar} {v u : Value} (h : MC2 w A v B u W) : RdI W.heap.size W v A.z := h.rdA.mono h.bel.size
theorem MC2.rdnB {w W : World} {A B : Ar} {v u : Value} (h : MC2 w A v B u W) : RdI W.heap.size W u B.z := h.rdB.mono h.bel.size
theorem MC2.new {w : World} {A B : Ar} {v u : Value} (hw : Ru.Lay w) (hv : RdI w.heap.size w v A.z) (hu : RdI w.heap.size w u B.z) :
    MC2 w A v B u ((w.alloc (.cells #[.int .i64 A.k, .int .i64 A.r, .int .i64 A.a, .int .i64 A.b, v] 43)).alloc (.cells #[.int .i64 B.k, .int .i64 B.r, .int .i64 B.a, .int .i64 B.b, u] 43)) := by
  have e : (w.alloc (.cells #[.int .i64 A.k, .int .i64 A.r, .int .i64 A.a, .int .i64 A.b, v] 43)).heap.size = w.heap.size + 1 := by simp
  have hb : Below w.heap.size w ((w.alloc (.cells #[.int .i64 A.k, .int .i64 A.r, .int .i64 A.a, .int .i64 A.b, v] 43)).alloc (.cells #[.int .i64 B.k, .int .i64 B.r, .int .i64 B.a, .int .i64 B.b, u] 43)) := (bel1 _ _).trans ((bel1 _ _).mono (by simp))
  refine ⟨hb, by simp, (R5.new _ _ _ _ _ _).alloc _, ?_, hv.below hb, hu.below hb, (hw.alloc _).alloc _⟩
  rw [← e]; exact R5.new _ _ _ _ _ _
/-- A scalar has one cell. -/
theorem scalar_one {A : Ar} (h : Good A) (hr : A.r = 0) : A.z.length = 1 := by
  obtain ⟨k, r, a, b, z⟩ := A
  have hl := h.len
  simp only at hr hl
  subst hr
  simp [cn] at hl
  simp; omega
theorem fst1_cell {B : Nat} {w : World} {p : Option Addr} {n cap : Nat} {A : Ar} (h : RdI B w (.slice p n cap) A.z) (hl : 0 < A.z.length) : ∃ b off, p = some ⟨b, off, none⟩ ∧ b < B ∧ w.cell? ⟨b, off, none⟩ = some (.int .i64 (fst1 A)) := by
  obtain ⟨p', cap', e, h1, h2, h3⟩ := h
  cases e
  obtain ⟨b, off, e, hb, hc⟩ := h3 (List.length_pos_iff.1 hl)
  refine ⟨b, off, e, hb, ?_⟩
  have := hc 0 hl
  rw [Nat.add_zero] at this
  rw [this]
  unfold fst1
  rw [List.getD_eq_getElem?_getD, List.getElem?_eq_getElem hl]
  rfl
/-- What cut returns. -/
def CutR (E : Int) (n : Int) (z : List Int) (e : Ending) (w' : World) : Prop := ∃ t l, e = .returned (.tuple #[t, l, .int .i64 E]) ∧ (E = 0 → RdI w'.heap.size w' t (tkZ n z) ∧ RdI w'.heap.size w' l (drZ n z))
theorem tk_neg {n : Int} {z : List Int} {k : Nat} (hn : n < 0) (hk : (k : Int) = max ((z.length : Int) + n) 0) : tkZ n z = z.drop k ∧ drZ n z = z.take k := by
  unfold tkZ drZ
  rw [if_pos hn, if_pos hn]
  have : ((z.length : Int) + n).toNat = k := by omega
  rw [this]; exact ⟨rfl, rfl⟩
theorem tk_pos {n : Int} {z : List Int} {k : Nat} (hn : ¬ n < 0) (hk : (k : Int) = min n (z.length : Int)) : tkZ n z = z.take k ∧ drZ n z = z.drop k := by
  unfold tkZ drZ
  rw [if_neg hn, if_neg hn]
  by_cases h : n ≤ z.length
  · have : n.toNat = k := by omega
    rw [this]; exact ⟨rfl, rfl⟩
  · have h1 : k = z.length := by omega
    subst h1
    rw [List.take_of_length_le (by omega), List.drop_eq_nil_of_le (by omega), List.take_of_length_le (Nat.le_refl _), List.drop_eq_nil_of_le (Nat.le_refl _)]
    exact ⟨rfl, rfl⟩

set_option maxRecDepth 100000 in
set_option maxHeartbeats 16000000 in
theorem cut_any (N V : Ar) (u v : Value) (w : World) (hw : Ru.Lay w) (hu : RdI w.heap.size w u N.z) (hv : RdI w.heap.size w v V.z) (hnv : Ru.NilC v) (hlN : N.z.length ≤ 1000000) (hlV : V.z.length ≤ 1000000) (hbn : -9223372036854775808 ≤ fst1 N ∧ fst1 N ≤ 9223372036854775807) :
    Calls Tryz.prog 124 #[A5 N.k N.r N.a N.b u, A5 V.k V.r V.a V.b v] w fun e w' => CutR (tkE N V) (fst1 N) V.z e w' ∧ Below w.heap.size w w' := by
  have HFa : Hid (∀ W g, W.heap.size = g → Ru.Lay W → RdI W.heap.size W u N.z → RdI W.heap.size W v V.z → Calls Tryz.prog 105 #[.slice (some ⟨g, 0, none⟩) 2 2] (W.alloc (.cells #[.int .i64 N.k, .int .i64 N.r, .int .i64 N.a, .int .i64 N.b, u, .int .i64 1, .int .i64 0, .int .i64 0, .int .i64 V.k, .int .i64 V.r, .int .i64 V.a, .int .i64 V.b, v, .int .i64 V.k, .int .i64 1, .int .i64 1] 102)) fun e w' => e = .returned (.int .i64 (tkE N V)) ∧ Below W.heap.size W w') := fun W g hg h1 h2 h3 => fault2_any N V u v 1 0 0 V.k 1 1 W g hg h1 h2 h3 hlN hlV
  have HK := Lib.hid (MC2.new (A := N) (B := V) hw hu hv)
  have x0 := HK.out.boxA.c0; have x1 := HK.out.boxA.c1; have x2 := HK.out.boxA.c2; have x3 := HK.out.boxA.c3; have x4 := HK.out.boxA.c4; have y0 := HK.out.boxB.c0; have y1 := HK.out.boxB.c1; have y2 := HK.out.boxB.c2; have y3 := HK.out.boxB.c3; have y4 := HK.out.boxB.c4
  obtain ⟨pu, cu, rfl, hcu, hcu2, hcellu⟩ := hu
  obtain ⟨p, cap, rfl, hcap, hcap2, hcell⟩ := hv
  clear hcell hcellu hw
  have HNil := Lib.hid hnv
  clear hnv
  by_cases h1 : tkE N V = 0
  · obtain ⟨hN, hV, h3, h4, h5, h6, h7, h8⟩ := two_ok h1
    have HOne := Lib.hid (scalar_one hN (by omega))
    have hN0 : (0 : Int) < (N.z.length : Int) := by have := HOne.out; omega
    rw [h1] at HFa ⊢
    clear h1 hN hV h3 h4 h5 h6 h7 h8
    generalize hfn : fst1 N = n at hbn ⊢
    have HFn := Lib.hid hfn
    clear hfn
    have hV4 : (V.z.length : Int) ≤ 1000000 := by omega
    go_enter Tryz.func124, Tryz.ntmps124
    go_wp2_with (go_at_call 105; (with_reducible refine (HFa.out _ _ (by first | rfl | simp) HK.out.lay HK.out.rdnA HK.out.rdnB).mono ?_); rintro e w1 ⟨rfl, hb⟩; have HK2 := Lib.hid (HK.out.next hb); clear HK x0 x1 x2 x3 x4 y0 y1 y2 y3 y4; have HK := HK2; clear HK2; have x0 := HK.out.boxA.c0; have x1 := HK.out.boxA.c1; have x2 := HK.out.boxA.c2; have x3 := HK.out.boxA.c3; have x4 := HK.out.boxA.c4; have y0 := HK.out.boxB.c0; have y1 := HK.out.boxB.c1; have y2 := HK.out.boxB.c2; have y3 := HK.out.boxB.c3; have y4 := HK.out.boxB.c4; clear hb)
    obtain ⟨b1, o1, rfl, _, hn1⟩ := fst1_cell HK.out.rdnA (by omega)
    rw [HFn.out] at hn1
    go_quiet (fail)
    have HK2 := Lib.hid (HK.out.next (drewN_below _ nq))
    generalize World.drewN w1 nq = W2 at HK2 ⊢
    clear HK hn1 x0 x1 x2 x3 x4 y0 y1 y2 y3 y4
    have HK := HK2
    clear HK2
    have y0 := HK.out.boxB.c0; have y1 := HK.out.boxB.c1; have y2 := HK.out.boxB.c2; have y3 := HK.out.boxB.c3; have y4 := HK.out.boxB.c4
    by_cases hneg : n < 0
    · obtain ⟨k, hk⟩ : ∃ k : Nat, (k : Int) = max ((V.z.length : Int) + n) 0 := ⟨(max ((V.z.length : Int) + n) 0).toNat, by omega⟩
      have hkl : k ≤ V.z.length := by omega
      have HLaw := Lib.hid (tk_neg (z := V.z) hneg hk)
      have hw1 : IntKind.i64.wrap ((V.z.length : Int) + n) = (V.z.length : Int) + n := by rw [IntKind.wrap_i64]; omega
      have hmx : max ((V.z.length : Int) + n) 0 = (k : Int) := hk.symm
      clear hk
      go_wp2_with fail
      by_cases hck : cap = k
      · have hkv : V.z.length = k := by omega
        subst hck
        have HZ := Lib.hid hkv
        clear hkv
        go_quiet (fail)
        have HK2 := Lib.hid (HK.out.next (drewN_below _ nq))
        clear HK
        go_wp2
        go_ret3
        refine ⟨⟨_, _, rfl, fun _ => ?_⟩, HK2.out.bel⟩
        rw [(HLaw.out).1, (HLaw.out).2]
        exact ⟨(by rw [List.drop_eq_nil_of_le (by have := HZ.out; omega)]; exact rdI_none (by omega)), rdI_take HK2.out.rdnB cap hkl⟩
      · have hk3 : 0 < cap - k := by omega
        rcases p with _ | ⟨b2, o2, sp⟩
        · have := HNil.out _ _ rfl
          omega
        · go_quiet (fail)
          have HK2 := Lib.hid (HK.out.next (drewN_below _ nq))
          clear HK
          go_wp2
          go_ret3
          refine ⟨⟨_, _, rfl, fun _ => ?_⟩, HK2.out.bel⟩
          rw [(HLaw.out).1, (HLaw.out).2]
          exact ⟨rdI_drop HK2.out.rdnB k hkl, rdI_take HK2.out.rdnB k hkl⟩
    · obtain ⟨k, hk⟩ : ∃ k : Nat, (k : Int) = min n (V.z.length : Int) := ⟨(min n (V.z.length : Int)).toNat, by omega⟩
      have hkl : k ≤ V.z.length := by omega
      have HLaw := Lib.hid (tk_pos (z := V.z) hneg hk)
      have hmx : min n (V.z.length : Int) = (k : Int) := hk.symm
      clear hk
      go_wp2_with fail
      by_cases hck : cap = k
      · have hkv : V.z.length = k := by omega
        subst hck
        have HZ := Lib.hid hkv
        clear hkv
        go_quiet (fail)
        have HK2 := Lib.hid (HK.out.next (drewN_below _ nq))
        clear HK
        go_wp2
        go_ret3
        refine ⟨⟨_, _, rfl, fun _ => ?_⟩, HK2.out.bel⟩
        rw [(HLaw.out).1, (HLaw.out).2]
        exact ⟨rdI_take HK2.out.rdnB cap hkl, (by rw [List.drop_eq_nil_of_le (by have := HZ.out; omega)]; exact rdI_none (by omega))⟩
      · have hk3 : 0 < cap - k := by omega
        rcases p with _ | ⟨b2, o2, sp⟩
        · have := HNil.out _ _ rfl
          omega
        · go_quiet (fail)
          have HK2 := Lib.hid (HK.out.next (drewN_below _ nq))
          clear HK
          go_wp2
          go_ret3
          refine ⟨⟨_, _, rfl, fun _ => ?_⟩, HK2.out.bel⟩
          rw [(HLaw.out).1, (HLaw.out).2]
          exact ⟨rdI_take HK2.out.rdnB k hkl, rdI_drop HK2.out.rdnB k hkl⟩
  · have HBad : Hid (tkE N V ≠ 0) := h1
    generalize tkE N V = E at h1 HFa HBad ⊢
    have k1 : (E != 0) = true := by simpa using h1
    clear h1
    go_enter Tryz.func124, Tryz.ntmps124
    go_wp2_with (go_at_call 105; (with_reducible refine (HFa.out _ _ (by first | rfl | simp) HK.out.lay HK.out.rdnA HK.out.rdnB).mono ?_); rintro e w1 ⟨rfl, hb⟩; have HK2 := Lib.hid (HK.out.next hb); clear HK x0 x1 x2 x3 x4 y0 y1 y2 y3 y4; have HK := HK2; clear HK2; have x0 := HK.out.boxA.c0; have x1 := HK.out.boxA.c1; have x2 := HK.out.boxA.c2; have x3 := HK.out.boxA.c3; have x4 := HK.out.boxA.c4; have y0 := HK.out.boxB.c0; have y1 := HK.out.boxB.c1; have y2 := HK.out.boxB.c2; have y3 := HK.out.boxB.c3; have y4 := HK.out.boxB.c4; clear hb)
    go_ret3
    exact ⟨⟨_, _, rfl, fun h => absurd h HBad.out⟩, HK.out.bel⟩

/-- What a walk over two arrays keeps that lays a result. -/
structure MK2 (w : World) (A : Ar) (v : Value) (B : Ar) (u : Value) (W : World) : Prop where
  c : MC2 w A v B u W
  sz : w.heap.size + 3 ≤ W.heap.size
  res : R5 W (w.heap.size + 2) 0 0 0 0 (.slice none 0 0)
theorem MK2.far {w W W' : World} {A B : Ar} {v u : Value} (h : MK2 w A v B u W) (hb : Below (w.heap.size + 3) W W') (hl : Ru.Lay W') : MK2 w A v B u W' :=
  ⟨h.c.far (hb.mono (by omega)) hl, Nat.le_trans h.sz hb.size, (hb.block _ (by omega)).trans h.res⟩
theorem MK2.next {w W W' : World} {A B : Ar} {v u : Value} (h : MK2 w A v B u W) (hb : Below W.heap.size W W') : MK2 w A v B u W' := h.far (hb.mono h.sz) (h.c.lay.next hb)
theorem MK2.new {w : World} {A B : Ar} {v u : Value} (hw : Ru.Lay w) (hv : RdI w.heap.size w v A.z) (hu : RdI w.heap.size w u B.z) :
    MK2 w A v B u (((w.alloc (.cells #[.int .i64 A.k, .int .i64 A.r, .int .i64 A.a, .int .i64 A.b, v] 43)).alloc (.cells #[.int .i64 B.k, .int .i64 B.r, .int .i64 B.a, .int .i64 B.b, u] 43)).alloc (.cells #[.int .i64 0, .int .i64 0, .int .i64 0, .int .i64 0, .slice none 0 0] 43)) := by
  have e : ((w.alloc (.cells #[.int .i64 A.k, .int .i64 A.r, .int .i64 A.a, .int .i64 A.b, v] 43)).alloc (.cells #[.int .i64 B.k, .int .i64 B.r, .int .i64 B.a, .int .i64 B.b, u] 43)).heap.size = w.heap.size + 2 := by simp
  refine ⟨(MC2.new hw hv hu).next (bel1 _ _), by simp, ?_⟩
  rw [← e]; exact R5.new _ _ _ _ _ _
theorem tk_ok {N V : Ar} (h : tkE N V = 0) : ck (vecA V.k (tkZ (fst1 N) V.z)) = 0 ∧ ck (vecA V.k (drZ (fst1 N) V.z)) = 0 := by
  obtain ⟨_, hV, _⟩ := two_ok h
  exact ⟨good_vec hV (len_take _ _) fun _ => mem_take, good_vec hV (len_drop _ _) fun _ => mem_drop⟩

set_option maxRecDepth 100000 in
set_option maxHeartbeats 8000000 in
theorem mtake_any (N V : Ar) (u v : Value) (w : World) (hw : Ru.Lay w) (hu : RdI w.heap.size w u N.z) (hv : RdI w.heap.size w v V.z) (hnv : Ru.NilC v) (hlN : N.z.length ≤ 1000000) (hlV : V.z.length ≤ 1000000) (hbn : -9223372036854775808 ≤ fst1 N ∧ fst1 N ≤ 9223372036854775807) :
    Calls Tryz.prog 60 #[A5 N.k N.r N.a N.b u, A5 V.k V.r V.a V.b v] w (RetE (tkV N V) (tkE N V) w) := by
  have HCu := Lib.hid (fun W h1 h2 h3 => cut_any N V u v W h1 h2 h3 hnv hlN hlV hbn)
  have HK := Lib.hid (MK2.new (A := N) (B := V) hw hu hv)
  have x0 := HK.out.c.boxA.c0; have x1 := HK.out.c.boxA.c1; have x2 := HK.out.c.boxA.c2; have x3 := HK.out.c.boxA.c3; have x4 := HK.out.c.boxA.c4; have y0 := HK.out.c.boxB.c0; have y1 := HK.out.c.boxB.c1; have y2 := HK.out.c.boxB.c2; have y3 := HK.out.c.boxB.c3; have y4 := HK.out.c.boxB.c4
  have hfu := hu
  obtain ⟨pu, cu, rfl, _, _, _⟩ := hu
  obtain ⟨p, cap, rfl, _, _, _⟩ := hv
  clear hfu hw hnv hbn
  unfold tkV
  by_cases h1 : tkE N V = 0
  · have hck := (tk_ok h1).1
    have HVe := Lib.hid (fun v W h1 h2 => mvec_ok hck v W h1 h2 (by have := len_take (fst1 N) V.z; omega))
    rw [orNo_yes h1, h1]
    rw [h1] at HCu
    clear h1 hck
    generalize fst1 N = n at HCu HVe ⊢
    generalize hZ : tkZ n V.z = Z at HVe ⊢
    have HZ := Lib.hid hZ
    clear hZ
    go_enter Tryz.func60, Tryz.ntmps60
    go_wp2_with (first
      | (go_at_call 124; (with_reducible refine (HCu.out _ HK.out.c.lay HK.out.c.rdnA HK.out.c.rdnB).mono ?_); rintro e w1 ⟨⟨t, l, rfl, hrd⟩, hb⟩; have HRd := Lib.hid (by have := (hrd rfl).1; rw [HZ.out] at this; exact this : RdI w1.heap.size w1 t Z); have HK2 := Lib.hid (HK.out.next hb); clear HK x0 x1 x2 x3 x4 y0 y1 y2 y3 y4; have HK := HK2; clear HK2; have x0 := HK.out.c.boxA.c0; have x1 := HK.out.c.boxA.c1; have x2 := HK.out.c.boxA.c2; have x3 := HK.out.c.boxA.c3; have x4 := HK.out.c.boxA.c4; have y0 := HK.out.c.boxB.c0; have y1 := HK.out.c.boxB.c1; have y2 := HK.out.c.boxB.c2; have y3 := HK.out.c.boxB.c3; have y4 := HK.out.c.boxB.c4; clear hb hrd; obtain ⟨qt, ct, hqt, _, _, _⟩ := HRd.out; subst hqt)
      | (go_at_call 106; (with_reducible refine (HVe.out _ _ HK.out.c.lay HRd.out).mono ?_); rintro e w2 ⟨q, qc, rfl, hu, hb⟩; have HU := Lib.hid hu; have hlt := HK.out.sz; have HK2 := Lib.hid (HK.out.next hb); clear HK x0 x1 x2 x3 x4 y0 y1 y2 y3 y4; have HK := HK2; clear HK2; have x0 := HK.out.c.boxA.c0; have x1 := HK.out.c.boxA.c1; have x2 := HK.out.c.boxA.c2; have x3 := HK.out.c.boxA.c3; have x4 := HK.out.c.boxA.c4; have y0 := HK.out.c.boxB.c0; have y1 := HK.out.c.boxB.c1; have y2 := HK.out.c.boxB.c2; have y3 := HK.out.c.boxB.c3; have y4 := HK.out.c.boxB.c4; clear hu hb; have y0 := HK.out.res.c0; have y1 := HK.out.res.c1; have y2 := HK.out.res.c2; have y3 := HK.out.res.c3; have y4 := HK.out.res.c4; have f0 := HK.out.res.fr 0; have f1 := HK.out.res.fr 1; have f2 := HK.out.res.fr 2; have f3 := HK.out.res.fr 3; have f4 := HK.out.res.fr 4; have HS := Lib.hid (HK.out.res.set V.k 1 Z.length 0 (.slice q Z.length qc)); have z0 := HS.out.c0; have z1 := HS.out.c1; have z2 := HS.out.c2; have z3 := HS.out.c3; have z4 := HS.out.c4))
    refine bodyPost_ret (v := .tuple #[A5 V.k 1 Z.length 0 (.slice q Z.length qc), .int .i64 0]) (by simp [results, Tryz.results60, go_sem, z0, z1, z2, z3, z4]) rfl ?_
    exact ⟨_, rfl, (HU.out.st5 (by omega) _ _ _ _ _).mono (by omega), st5_below _ _ _ _ _ (by omega) HK.out.c.bel⟩
  · rw [orNo_no h1]
    generalize tkE N V = E at h1 HCu ⊢
    have k1 : (E != 0) = true := by simpa using h1
    clear h1
    go_enter Tryz.func60, Tryz.ntmps60
    go_wp2_with (go_at_call 124; (with_reducible refine (HCu.out _ HK.out.c.lay HK.out.c.rdnA HK.out.c.rdnB).mono ?_); rintro e w1 ⟨⟨t, l, rfl, hrd⟩, hb⟩; clear hrd; have HK2 := Lib.hid (HK.out.next hb); clear HK x0 x1 x2 x3 x4 y0 y1 y2 y3 y4; have HK := HK2; clear HK2; have x0 := HK.out.c.boxA.c0; have x1 := HK.out.c.boxA.c1; have x2 := HK.out.c.boxA.c2; have x3 := HK.out.c.boxA.c3; have x4 := HK.out.c.boxA.c4; have y0 := HK.out.c.boxB.c0; have y1 := HK.out.c.boxB.c1; have y2 := HK.out.c.boxB.c2; have y3 := HK.out.c.boxB.c3; have y4 := HK.out.c.boxB.c4; clear hb; have y0 := HK.out.res.c0; have y1 := HK.out.res.c1; have y2 := HK.out.res.c2; have y3 := HK.out.res.c3; have y4 := HK.out.res.c4; have f0 := HK.out.res.fr 0; have f1 := HK.out.res.fr 1; have f2 := HK.out.res.fr 2; have f3 := HK.out.res.fr 3; have f4 := HK.out.res.fr 4; have HS := Lib.hid (HK.out.res.set 0 0 0 0 (.slice none 0 0)); have z0 := HS.out.c0; have z1 := HS.out.c1; have z2 := HS.out.c2; have z3 := HS.out.c3; have z4 := HS.out.c4)
    exact bodyPost_ret (v := .tuple #[A5 0 0 0 0 (.slice none 0 0), .int .i64 E]) (by simp [results, Tryz.results60, go_sem, z0, z1, z2, z3, z4]) rfl (retE_no _ (st5_below _ _ _ _ _ (by omega) HK.out.c.bel))

set_option maxRecDepth 100000 in
set_option maxHeartbeats 8000000 in
theorem mdrop_any (N V : Ar) (u v : Value) (w : World) (hw : Ru.Lay w) (hu : RdI w.heap.size w u N.z) (hv : RdI w.heap.size w v V.z) (hnv : Ru.NilC v) (hlN : N.z.length ≤ 1000000) (hlV : V.z.length ≤ 1000000) (hbn : -9223372036854775808 ≤ fst1 N ∧ fst1 N ≤ 9223372036854775807) :
    Calls Tryz.prog 61 #[A5 N.k N.r N.a N.b u, A5 V.k V.r V.a V.b v] w (RetE (drV N V) (tkE N V) w) := by
  have HCu := Lib.hid (fun W h1 h2 h3 => cut_any N V u v W h1 h2 h3 hnv hlN hlV hbn)
  have HK := Lib.hid (MK2.new (A := N) (B := V) hw hu hv)
  have x0 := HK.out.c.boxA.c0; have x1 := HK.out.c.boxA.c1; have x2 := HK.out.c.boxA.c2; have x3 := HK.out.c.boxA.c3; have x4 := HK.out.c.boxA.c4; have y0 := HK.out.c.boxB.c0; have y1 := HK.out.c.boxB.c1; have y2 := HK.out.c.boxB.c2; have y3 := HK.out.c.boxB.c3; have y4 := HK.out.c.boxB.c4
  have hfu := hu
  obtain ⟨pu, cu, rfl, _, _, _⟩ := hu
  obtain ⟨p, cap, rfl, _, _, _⟩ := hv
  clear hfu hw hnv hbn
  unfold drV
  by_cases h1 : tkE N V = 0
  · have hck := (tk_ok h1).2
    have HVe := Lib.hid (fun v W h1 h2 => mvec_ok hck v W h1 h2 (by have := len_drop (fst1 N) V.z; omega))
    rw [orNo_yes h1, h1]
    rw [h1] at HCu
    clear h1 hck
    generalize fst1 N = n at HCu HVe ⊢
    generalize hZ : drZ n V.z = Z at HVe ⊢
    have HZ := Lib.hid hZ
    clear hZ
    go_enter Tryz.func61, Tryz.ntmps61
    go_wp2_with (first
      | (go_at_call 124; (with_reducible refine (HCu.out _ HK.out.c.lay HK.out.c.rdnA HK.out.c.rdnB).mono ?_); rintro e w1 ⟨⟨t, l, rfl, hrd⟩, hb⟩; have HRd := Lib.hid (by have := (hrd rfl).2; rw [HZ.out] at this; exact this : RdI w1.heap.size w1 l Z); have HK2 := Lib.hid (HK.out.next hb); clear HK x0 x1 x2 x3 x4 y0 y1 y2 y3 y4; have HK := HK2; clear HK2; have x0 := HK.out.c.boxA.c0; have x1 := HK.out.c.boxA.c1; have x2 := HK.out.c.boxA.c2; have x3 := HK.out.c.boxA.c3; have x4 := HK.out.c.boxA.c4; have y0 := HK.out.c.boxB.c0; have y1 := HK.out.c.boxB.c1; have y2 := HK.out.c.boxB.c2; have y3 := HK.out.c.boxB.c3; have y4 := HK.out.c.boxB.c4; clear hb hrd; obtain ⟨qt, ct, hqt, _, _, _⟩ := HRd.out; subst hqt)
      | (go_at_call 106; (with_reducible refine (HVe.out _ _ HK.out.c.lay HRd.out).mono ?_); rintro e w2 ⟨q, qc, rfl, hu, hb⟩; have HU := Lib.hid hu; have hlt := HK.out.sz; have HK2 := Lib.hid (HK.out.next hb); clear HK x0 x1 x2 x3 x4 y0 y1 y2 y3 y4; have HK := HK2; clear HK2; have x0 := HK.out.c.boxA.c0; have x1 := HK.out.c.boxA.c1; have x2 := HK.out.c.boxA.c2; have x3 := HK.out.c.boxA.c3; have x4 := HK.out.c.boxA.c4; have y0 := HK.out.c.boxB.c0; have y1 := HK.out.c.boxB.c1; have y2 := HK.out.c.boxB.c2; have y3 := HK.out.c.boxB.c3; have y4 := HK.out.c.boxB.c4; clear hu hb; have y0 := HK.out.res.c0; have y1 := HK.out.res.c1; have y2 := HK.out.res.c2; have y3 := HK.out.res.c3; have y4 := HK.out.res.c4; have f0 := HK.out.res.fr 0; have f1 := HK.out.res.fr 1; have f2 := HK.out.res.fr 2; have f3 := HK.out.res.fr 3; have f4 := HK.out.res.fr 4; have HS := Lib.hid (HK.out.res.set V.k 1 Z.length 0 (.slice q Z.length qc)); have z0 := HS.out.c0; have z1 := HS.out.c1; have z2 := HS.out.c2; have z3 := HS.out.c3; have z4 := HS.out.c4))
    refine bodyPost_ret (v := .tuple #[A5 V.k 1 Z.length 0 (.slice q Z.length qc), .int .i64 0]) (by simp [results, Tryz.results61, go_sem, z0, z1, z2, z3, z4]) rfl ?_
    exact ⟨_, rfl, (HU.out.st5 (by omega) _ _ _ _ _).mono (by omega), st5_below _ _ _ _ _ (by omega) HK.out.c.bel⟩
  · rw [orNo_no h1]
    generalize tkE N V = E at h1 HCu ⊢
    have k1 : (E != 0) = true := by simpa using h1
    clear h1
    go_enter Tryz.func61, Tryz.ntmps61
    go_wp2_with (go_at_call 124; (with_reducible refine (HCu.out _ HK.out.c.lay HK.out.c.rdnA HK.out.c.rdnB).mono ?_); rintro e w1 ⟨⟨t, l, rfl, hrd⟩, hb⟩; clear hrd; have HK2 := Lib.hid (HK.out.next hb); clear HK x0 x1 x2 x3 x4 y0 y1 y2 y3 y4; have HK := HK2; clear HK2; have x0 := HK.out.c.boxA.c0; have x1 := HK.out.c.boxA.c1; have x2 := HK.out.c.boxA.c2; have x3 := HK.out.c.boxA.c3; have x4 := HK.out.c.boxA.c4; have y0 := HK.out.c.boxB.c0; have y1 := HK.out.c.boxB.c1; have y2 := HK.out.c.boxB.c2; have y3 := HK.out.c.boxB.c3; have y4 := HK.out.c.boxB.c4; clear hb; have y0 := HK.out.res.c0; have y1 := HK.out.res.c1; have y2 := HK.out.res.c2; have y3 := HK.out.res.c3; have y4 := HK.out.res.c4; have f0 := HK.out.res.fr 0; have f1 := HK.out.res.fr 1; have f2 := HK.out.res.fr 2; have f3 := HK.out.res.fr 3; have f4 := HK.out.res.fr 4; have HS := Lib.hid (HK.out.res.set 0 0 0 0 (.slice none 0 0)); have z0 := HS.out.c0; have z1 := HS.out.c1; have z2 := HS.out.c2; have z3 := HS.out.c3; have z4 := HS.out.c4)
    exact bodyPost_ret (v := .tuple #[A5 0 0 0 0 (.slice none 0 0), .int .i64 E]) (by simp [results, Tryz.results61, go_sem, z0, z1, z2, z3, z4]) rfl (retE_no _ (st5_below _ _ _ _ _ (by omega) HK.out.c.bel))
end Go.Proofs.YtpbfbejckhbijaaGreatDoor
namespace Go.Proofs.YtpbfbejckhbijaaGreatDoor
open Go.RowKit

def lmn (z : List Int) : Int := z.foldl min (z.getD 0 0)
def lmx (z : List Int) : Int := z.foldl max (z.getD 0 0)
theorem lmn_take {z : List Int} {j : Nat} (h : j < z.length) : (z.take (j + 1)).foldl min (z.getD 0 0) = min ((z.take j).foldl min (z.getD 0 0)) z[j] := by
  rw [List.take_succ_eq_append_getElem h, List.foldl_append]; rfl
theorem lmx_take {z : List Int} {j : Nat} (h : j < z.length) : (z.take (j + 1)).foldl max (z.getD 0 0) = max ((z.take j).foldl max (z.getD 0 0)) z[j] := by
  rw [List.take_succ_eq_append_getElem h, List.foldl_append]; rfl
theorem getD_lt {z : List Int} {j : Nat} (h : j < z.length) : z.getD j 0 = z[j] := by
  rw [List.getD_eq_getElem?_getD, List.getElem?_eq_getElem h]; rfl

set_option maxRecDepth 100000 in
set_option maxHeartbeats 8000000 in
theorem min_any (v : Value) (z : List Int) (w : World) (hv : RdI w.heap.size w v z) (hz : 0 < z.length) (hl : z.length ≤ 1000000) :
    Calls Tryz.prog 154 #[v] w fun e w' => e = .returned (.int .i64 (lmn z)) ∧ Below w.heap.size w w' := by
  have hz1 : z ≠ [] := List.length_pos_iff.1 hz
  obtain ⟨p, cap, rfl, hcap, hcap2, hcell⟩ := hv
  obtain ⟨b, off, rfl, _, hc⟩ := hcell hz1
  have HC := Lib.hid hc
  have x0 := hc 0 hz
  rw [Nat.add_zero, show vi z[0] = .int .i64 z[0] from rfl, ← getD_lt hz] at x0
  have hn1 : ¬ ((z.length : Int) < 1) := by omega
  have hn0 : (0 : Int) < (z.length : Int) := by omega
  have HS : Hid ((z.take 1).foldl min (z.getD 0 0) = z.getD 0 0) := by
    unfold Hid
    rw [lmn_take hz, ← getD_lt hz]; simp
  clear hc hcell hz1
  generalize hx : z.getD 0 0 = x at x0 HS
  have HX := Lib.hid hx
  clear hx
  go_enter Tryz.func154, Tryz.ntmps154
  go_wp2
  clear x0
  go_loopg [3, 4] (z.length - 1) (fun gk m i wr => ∃ j : Nat, j + gk = z.length ∧ 0 < j ∧ i = .int .i64 j ∧ m = .int .i64 ((z.take j).foldl min x) ∧ w = wr)
  case atStart => exact ⟨1, by omega, by omega, rfl, by rw [HS.out], rfl⟩
  case round =>
    obtain ⟨j, hjg, hj0, rfl, rfl, rfl⟩ := hrel
    cases gk with
    | zero =>
      have hjz : ¬ ((j : Int) < (z.length : Int)) := by omega
      have HF : Hid ((z.take j).foldl min x = lmn z) := by unfold Hid lmn; rw [HX.out, List.take_of_length_le (by omega)]
      clear HS
      go_wp2
      go_ret
      exact ⟨congrArg (fun q => Ending.returned (.int .i64 q)) HF.out, Below.refl _ _⟩
    | succ g2 =>
      have hjz : (j : Int) < (z.length : Int) := by omega
      have hj : j < z.length := by omega
      have x1 := HC.out j hj
      have HT := Lib.hid (lmn_take hj)
      rw [HX.out] at HT
      have hw0 : IntKind.i64.wrap ((j : Int) + 1) = (j : Int) + 1 := by rw [IntKind.wrap_i64]; omega
      generalize z[j] = c at x1 HT
      generalize (z.take j).foldl min x = m at HT ⊢
      clear hn1 hn0
      go_wp2
      go_roundg g2
      case measure => omega
      case rel => exact ⟨j + 1, by omega, by omega, by go_num, by rw [HT.out], rfl⟩

set_option maxRecDepth 100000 in
set_option maxHeartbeats 8000000 in
theorem max_any (v : Value) (z : List Int) (w : World) (hv : RdI w.heap.size w v z) (hz : 0 < z.length) (hl : z.length ≤ 1000000) :
    Calls Tryz.prog 155 #[v] w fun e w' => e = .returned (.int .i64 (lmx z)) ∧ Below w.heap.size w w' := by
  have hz1 : z ≠ [] := List.length_pos_iff.1 hz
  obtain ⟨p, cap, rfl, hcap, hcap2, hcell⟩ := hv
  obtain ⟨b, off, rfl, _, hc⟩ := hcell hz1
  have HC := Lib.hid hc
  have x0 := hc 0 hz
  rw [Nat.add_zero, show vi z[0] = .int .i64 z[0] from rfl, ← getD_lt hz] at x0
  have hn1 : ¬ ((z.length : Int) < 1) := by omega
  have hn0 : (0 : Int) < (z.length : Int) := by omega
  have HS : Hid ((z.take 1).foldl max (z.getD 0 0) = z.getD 0 0) := by
    unfold Hid
    rw [lmx_take hz, ← getD_lt hz]; simp
  clear hc hcell hz1
  generalize hx : z.getD 0 0 = x at x0 HS
  have HX := Lib.hid hx
  clear hx
  go_enter Tryz.func155, Tryz.ntmps155
  go_wp2
  clear x0
  go_loopg [3, 4] (z.length - 1) (fun gk m i wr => ∃ j : Nat, j + gk = z.length ∧ 0 < j ∧ i = .int .i64 j ∧ m = .int .i64 ((z.take j).foldl max x) ∧ w = wr)
  case atStart => exact ⟨1, by omega, by omega, rfl, by rw [HS.out], rfl⟩
  case round =>
    obtain ⟨j, hjg, hj0, rfl, rfl, rfl⟩ := hrel
    cases gk with
    | zero =>
      have hjz : ¬ ((j : Int) < (z.length : Int)) := by omega
      have HF : Hid ((z.take j).foldl max x = lmx z) := by unfold Hid lmx; rw [HX.out, List.take_of_length_le (by omega)]
      clear HS
      go_wp2
      go_ret
      exact ⟨congrArg (fun q => Ending.returned (.int .i64 q)) HF.out, Below.refl _ _⟩
    | succ g2 =>
      have hjz : (j : Int) < (z.length : Int) := by omega
      have hj : j < z.length := by omega
      have x1 := HC.out j hj
      have HT := Lib.hid (lmx_take hj)
      rw [HX.out] at HT
      have hw0 : IntKind.i64.wrap ((j : Int) + 1) = (j : Int) + 1 := by rw [IntKind.wrap_i64]; omega
      generalize z[j] = c at x1 HT
      generalize (z.take j).foldl max x = m at HT ⊢
      clear hn1 hn0
      go_wp2
      go_roundg g2
      case measure => omega
      case rel => exact ⟨j + 1, by omega, by omega, by go_num, by rw [HT.out], rfl⟩

theorem info64s : (Tryz.prog.info? 2).map (·.size) = some 1 := by kernel_rfl
theorem setRow_but (w : World) (g : Nat) (cs : Array Value) : But g w (w.setRow g cs) :=
  ⟨rfl, rfl, rfl, by simp [World.setRow], fun k hk => by simp only [World.setRow, Array.getElem?_modify]; rw [if_neg (fun e => hk e.symm)]⟩
/-- copy into a row of the call's own. -/
theorem copy_run {w : World} {g n : Nat} {f : Nat → Int} (h : rowZ w g n f) (o dl dc : Nat) {u : Value} {z : List Int} {B : Nat} (hu : RdI B w u z) (c : Nat) (hc : c = min z.length dl) (hfit : o + c ≤ n) :
    ∃ w', (∀ T, (Builtin.copy_ #[41, 41] T #[.slice (some ⟨g, o, none⟩) dl dc, u]).run Tryz.prog w = .ok (.int .i64 c) w') ∧ rowZ w' g n (fun i => if o ≤ i ∧ i < o + c then z.getD (i - o) 0 else f i) ∧ But g w w' := by
  obtain ⟨p, cap, rfl, h1, h2, h3⟩ := hu
  by_cases h0 : c = 0
  · subst h0
    exact ⟨w, fun T => run_copy_none (P := Tryz.prog) w _ _ T 2 _ _ _ _ _ _ Tryz.underlying41 info64s hc.symm, h.congr fun i _ => by rw [if_neg (by omega)], But.refl _ _⟩
  · obtain ⟨b, off, rfl, _, hcell⟩ := h3 (fun e => h0 (by rw [hc, e]; simp))
    obtain ⟨cs, hcs, hsz, hget⟩ := h
    have hlen : ((z.take c).map vi).length = c := by rw [List.length_map, List.length_take]; omega
    have hr := fun T => run_copy_row (P := Tryz.prog) w 41 41 T 2 g o dl dc ⟨b, off, none⟩ z.length cap cs 2 ((z.take c).map vi) Tryz.underlying41 info64s hcs (by rw [hlen]; exact hc)
      (fun j v hj => by
        have hjl : j < c := by
          rcases Nat.lt_or_ge j c with hj' | hj'
          · exact hj'
          · rw [List.getElem?_eq_none (by omega)] at hj; cases hj
        rw [Ru.add_off, hcell j (by omega)]
        rw [List.getElem?_map, List.getElem?_eq_getElem (by rw [List.length_take]; omega), List.getElem_take] at hj
        exact hj) (by rw [hlen, hsz]; exact hfit) (fun v hv => by obtain ⟨q, _, rfl⟩ := List.mem_map.1 hv; rfl)
    rw [hlen] at hr
    refine ⟨_, hr, ⟨_, setRow_heap w g cs _ _ _ hcs, ?_, fun i hi => ?_⟩, setRow_but _ _ _⟩
    · simp [List.length_take, hsz]; omega
    · have hi2 : i < cs.size := by omega
      have hgi := hget i hi
      simp only [List.getElem?_toArray]
      by_cases hin : o ≤ i ∧ i < o + c
      · rw [if_pos hin, List.append_assoc, List.getElem?_append_right (by simp; omega), List.getElem?_append_left (by simp [hsz]; omega)]
        simp only [List.length_take, Array.length_toList]
        rw [show i - min o cs.size = i - o by omega, List.getElem?_map, List.getElem?_eq_getElem (by rw [List.length_take]; omega), List.getElem_take, getD_lt (by omega)]
        rfl
      · rw [if_neg hin]
        by_cases hlt : i < o
        · rw [List.append_assoc, List.getElem?_append_left (by simp; omega), List.getElem?_take, if_pos hlt]
          simpa using hgi
        · rw [List.getElem?_append_right (by simp; omega), List.getElem?_drop]
          simp only [List.length_append, List.length_take, Array.length_toList, hlen]
          rw [show o + c + (i - (min o cs.size + c)) = i by omega]
          simpa using hgi
end Go.Proofs.YtpbfbejckhbijaaGreatDoor
namespace Go.Proofs.YtpbfbejckhbijaaGreatDoor
open Go.RowKit

theorem lmn_one (x : Int) : lmn [x] = x ∧ lmx [x] = x := by simp [lmn, lmx]
theorem lmn_two (x y : Int) : lmn [x, y] = min x y ∧ lmx [x, y] = max x y := by simp [lmn, lmx]
/-- What a walk of again keeps. -/
structure MA (w : World) (A : Ar) (v u : Value) (l : List Int) (W : World) : Prop where
  k : MK1 w A v W
  rl : RdI w.heap.size W u l
theorem MA.far {w W W' : World} {A : Ar} {v u : Value} {l : List Int} (h : MA w A v u l W) (hb : Below (w.heap.size + 2) W W') (hl : Ru.Lay W') : MA w A v u l W' := ⟨h.k.far hb hl, h.rl.below (hb.mono (by omega))⟩
theorem MA.next {w W W' : World} {A : Ar} {v u : Value} {l : List Int} (h : MA w A v u l W) (hb : Below W.heap.size W W') : MA w A v u l W' := h.far (hb.mono h.k.sz) (h.k.lay.next hb)
theorem MA.rln {w W : World} {A : Ar} {v u : Value} {l : List Int} (h : MA w A v u l W) : RdI W.heap.size W u l := h.rl.mono h.k.bel.size
theorem MA.new {w : World} {A : Ar} {v u : Value} {l : List Int} (hw : Ru.Lay w) (hv : RdI w.heap.size w v A.z) (hu : RdI w.heap.size w u l) : MA w A v u l ((w.alloc (.cells #[.int .i64 A.k, .int .i64 A.r, .int .i64 A.a, .int .i64 A.b, v] 43)).alloc (.cells #[.int .i64 0, .int .i64 0, .int .i64 0, .int .i64 0, .slice none 0 0] 43)) :=
  ⟨MK1.new hw hv, hu.below ((bel1 _ _).trans ((bel1 _ _).mono (by simp)))⟩
/-- blank that is none. -/
theorem blank_no {k r a b : Int} {n : Nat} (h : ck ⟨k, r, a, b, List.replicate n 0⟩ ≠ 0) (w : World) (hw : Ru.Lay w) (hn : (if r = 2 then a * b else a) = (n : Int)) (hl : n ≤ 1000000) :
    Calls Tryz.prog 110 #[.int .i64 k, .int .i64 r, P2 a b] w fun e w' => ∃ q c, e = .returned (.tuple #[A5 0 0 0 0 (.slice q 0 c), .int .i64 (ck ⟨k, r, a, b, List.replicate n 0⟩)]) ∧ Below w.heap.size w w' := by
  refine (blank_any k r a b n w hw hn hl).mono ?_
  rw [mk_no h]
  rintro e w' ⟨u, h1, h2, h3⟩
  rcases h2 with ⟨_, rfl, _⟩ | ⟨g, rfl, _, _⟩
  · exact ⟨_, _, h1, h3⟩
  · exact ⟨_, _, h1, h3⟩
/-- The numbers again and again, of which the first o have been written. -/
def agF (z : List Int) (o i : Nat) : Int := if i < o then z.getD (i % z.length) 0 else 0
theorem agF_zero (z : List Int) (i : Nat) : agF z 0 i = 0 := by unfold agF; rw [if_neg (by omega)]
theorem agF_next {z : List Int} {o c i n : Nat} (ho : o % z.length = 0) (hc : c = min z.length (n - o)) (_ : i < n) : (if o ≤ i ∧ i < o + c then z.getD (i - o) 0 else agF z o i) = agF z (o + c) i := by
  unfold agF
  by_cases h : o ≤ i ∧ i < o + c
  · rw [if_pos h, if_pos h.2]
    have hlt : i - o < z.length := by omega
    have : i % z.length = i - o := by
      obtain ⟨q, hq⟩ := Nat.dvd_of_mod_eq_zero ho
      obtain ⟨d, rfl⟩ : ∃ d, i = o + d := ⟨i - o, by omega⟩
      rw [Nat.add_sub_cancel_left] at hlt ⊢
      rw [hq, Nat.mul_add_mod, Nat.mod_eq_of_lt hlt]
    rw [this]
  · rw [if_neg h]
    by_cases h2 : i < o
    · rw [if_pos h2, if_pos (by omega)]
    · rw [if_neg h2, if_neg (by omega)]
/-- What the copying loop keeps. -/
structure Kg (w : World) (A : Ar) (v u : Value) (l : List Int) (r a b : Int) (n g gb o : Nat) (q : Option Addr) (W : World) : Prop where
  m : MA w A v u l W
  bx : R5 W gb A.k r a b (.slice (some ⟨g, 0, none⟩) n n)
  row : rowZ W g n (agF A.z o)
  pos : o < n → q = some ⟨g, o, none⟩ ∧ o % A.z.length = 0
theorem Kg.next {w W W' : World} {A : Ar} {v u : Value} {l : List Int} {r a b : Int} {n g gb o c : Nat} {q q' : Option Addr} (k : Kg w A v u l r a b n g gb o q W) (h1 : w.heap.size + 1 < g) (h2 : gb ≠ g) (ho : o < n) (hc : c = min A.z.length (n - o))
    (hq : o + c < n → q' = some ⟨g, o + c, none⟩) (hb : But g W W') (hL : Ru.Lay W') (hr : rowZ W' g n (fun i => if o ≤ i ∧ i < o + c then A.z.getD (i - o) 0 else agF A.z o i)) : Kg w A v u l r a b n g gb (o + c) q' W' :=
  ⟨k.m.far (hb.below (by omega)) hL, (hb.block _ h2).trans k.bx, hr.congr fun i hi => agF_next (k.pos ho).2 hc hi, fun h => ⟨hq h, by
    have := (k.pos ho).2
    have e : c = A.z.length := by omega
    rw [e, Nat.add_mod_right]; exact this⟩⟩

/-- The lengths as again has written them. -/
structure KgL (w : World) (A : Ar) (v u : Value) (l : List Int) (gl : Nat) (a b : Int) (W : World) : Prop where
  m : MA w A v u l W
  bx : R2 W gl a b
theorem R2.put0 {w : World} {g : Nat} {a b : Int} (h : R2 w g a b) (x : Int) : R2 (w.setCell ⟨g, 0, none⟩ (.int .i64 x)) g x b := by
  unfold R2 at h ⊢
  simp [World.setCell, Array.getElem?_modify, h]
theorem R2.put1 {w : World} {g : Nat} {a b : Int} (h : R2 w g a b) (x : Int) : R2 (w.setCell ⟨g, 1, none⟩ (.int .i64 x)) g a x := by
  unfold R2 at h ⊢
  simp [World.setCell, Array.getElem?_modify, h]
theorem R2.fr {w : World} {g : Nat} {a b : Int} (h : R2 w g a b) (i : Nat) : w.frozen? ⟨g, i, none⟩ = false := Lib.frozen_of_heap h i
theorem KgL.put0 {w W : World} {A : Ar} {v u : Value} {l : List Int} {gl : Nat} {a b : Int} (h : KgL w A v u l gl a b W) (h3 : 0 + 1 ≤ w.heap.size) (hg : w.heap.size + 2 ≤ gl) (x : Int) : KgL w A v u l gl x b (W.setCell ⟨gl, 0, none⟩ (.int .i64 x)) :=
  have hb : Below (w.heap.size + 2) W (W.setCell ⟨gl, 0, none⟩ (.int .i64 x)) := (Below.refl _ _).setCell (p := ⟨gl, 0, none⟩) hg _
  ⟨h.m.far hb (h.m.k.lay.below (by omega) hb), h.bx.put0 x⟩
theorem KgL.put1 {w W : World} {A : Ar} {v u : Value} {l : List Int} {gl : Nat} {a b : Int} (h : KgL w A v u l gl a b W) (h3 : 0 + 1 ≤ w.heap.size) (hg : w.heap.size + 2 ≤ gl) (x : Int) : KgL w A v u l gl a x (W.setCell ⟨gl, 1, none⟩ (.int .i64 x)) :=
  have hb : Below (w.heap.size + 2) W (W.setCell ⟨gl, 1, none⟩ (.int .i64 x)) := (Below.refl _ _).setCell (p := ⟨gl, 1, none⟩) hg _
  ⟨h.m.far hb (h.m.k.lay.below (by omega) hb), h.bx.put1 x⟩
theorem MA.num {w W : World} {A : Ar} {v : Value} {p : Option Addr} {n cu : Nat} {l : List Int} (h : MA w A v (.slice p n cu) l W) (hl : 0 < l.length) : ∃ bu ou, p = some ⟨bu, ou, none⟩ ∧ ∀ W', RdI w.heap.size W' (.slice p n cu) l → ∀ j (hj : j < l.length), W'.cell? ⟨bu, ou + j, none⟩ = some (.int .i64 l[j]) := by
  obtain ⟨p', cap', e, h1, h2, h3⟩ := h.rl
  cases e
  obtain ⟨b, off, rfl, hb, hc⟩ := h3 (List.length_pos_iff.1 hl)
  refine ⟨b, off, rfl, fun W' h' => ?_⟩
  obtain ⟨p', cap', e, _, _, h3'⟩ := h'
  cases e
  obtain ⟨b', off', e', hb', hc'⟩ := h3' (List.length_pos_iff.1 hl)
  cases e'
  exact hc'

set_option maxRecDepth 100000 in
set_option maxHeartbeats 16000000 in
theorem again1_any (A : Ar) (v u : Value) (x : Int) (w : World) (hw : Ru.Lay w) (hA : Good A) (hz : 0 < A.z.length) (hv : RdI w.heap.size w v A.z) (hu : RdI w.heap.size w u [x]) :
    Calls Tryz.prog 125 #[A5 A.k A.r A.a A.b v, .int .i64 1, u] w (RetE (orNo (if x < 0 then 13 else if 400 < x then 15 else 0) ⟨A.k, 1, x, 0, agn x.toNat A.z⟩) (if x < 0 then 13 else if 400 < x then 15 else 0) w) := by
  have hl : A.z.length ≤ 400 := hA.len4
  have HMn := Lib.hid (fun W h => min_any u [x] W h (by simp) (by simp))
  have HMx := Lib.hid (fun W h => max_any u [x] W h (by simp) (by simp))
  have HK := Lib.hid (MA.new (A := A) hw hv hu)
  have HW3 := Lib.hid hw.size
  have x0 := HK.out.k.box.c0; have x1 := HK.out.k.box.c1; have x2 := HK.out.k.box.c2; have x3 := HK.out.k.box.c3; have x4 := HK.out.k.box.c4
  obtain ⟨p, cap, rfl, hcap, hcap2, hcell⟩ := hv
  obtain ⟨pu, cu, rfl, hcu, hcu2, hcellu⟩ := hu
  have hcellu2 := hcellu (by simp)
  obtain ⟨bu, ou, rfl, _, _⟩ := hcellu2
  clear hcell hcellu hw
  simp only [List.length_cons, List.length_nil, Nat.zero_add] at hcu HMn HMx HK ⊢
  rw [(lmn_one x).1] at HMn
  rw [(lmn_one x).2] at HMx
  by_cases h1 : x < 0
  · rw [if_pos h1, orNo_no (by decide)]
    go_enter Tryz.func125, Tryz.ntmps125
    go_wp2_with (go_at_call 154; (with_reducible refine (HMn.out _ HK.out.rln).mono ?_); rintro e w1 ⟨rfl, hb⟩; have HK2 := Lib.hid (HK.out.next hb); clear HK x0 x1 x2 x3 x4; have HK := HK2; clear HK2; have x0 := HK.out.k.box.c0; have x1 := HK.out.k.box.c1; have x2 := HK.out.k.box.c2; have x3 := HK.out.k.box.c3; have x4 := HK.out.k.box.c4; clear hb; have y0 := HK.out.k.res.c0; have y1 := HK.out.k.res.c1; have y2 := HK.out.k.res.c2; have y3 := HK.out.k.res.c3; have y4 := HK.out.k.res.c4; have f0 := HK.out.k.res.fr 0; have f1 := HK.out.k.res.fr 1; have f2 := HK.out.k.res.fr 2; have f3 := HK.out.k.res.fr 3; have f4 := HK.out.k.res.fr 4; have HS := Lib.hid (HK.out.k.res.set 0 0 0 0 (.slice none 0 0)); have z0 := HS.out.c0; have z1 := HS.out.c1; have z2 := HS.out.c2; have z3 := HS.out.c3; have z4 := HS.out.c4)
    exact bodyPost_ret (v := .tuple #[A5 0 0 0 0 (.slice none 0 0), .int .i64 13]) (by simp [results, Tryz.results125, go_sem, z0, z1, z2, z3, z4]) rfl (retE_no _ (st5_below _ _ _ _ _ (by omega) HK.out.k.bel))
  · rw [if_neg h1]
    by_cases h2 : 400 < x
    · rw [if_pos h2, orNo_no (by decide)]
      go_enter Tryz.func125, Tryz.ntmps125
      go_wp2_with (first
        | (go_at_call 154; (with_reducible refine (HMn.out _ HK.out.rln).mono ?_); rintro e w1 ⟨rfl, hb⟩; have HK2 := Lib.hid (HK.out.next hb); clear HK x0 x1 x2 x3 x4; have HK := HK2; clear HK2; have x0 := HK.out.k.box.c0; have x1 := HK.out.k.box.c1; have x2 := HK.out.k.box.c2; have x3 := HK.out.k.box.c3; have x4 := HK.out.k.box.c4; clear hb)
        | (go_at_call 155; (with_reducible refine (HMx.out _ HK.out.rln).mono ?_); rintro e w1 ⟨rfl, hb⟩; have HK2 := Lib.hid (HK.out.next hb); clear HK x0 x1 x2 x3 x4; have HK := HK2; clear HK2; have x0 := HK.out.k.box.c0; have x1 := HK.out.k.box.c1; have x2 := HK.out.k.box.c2; have x3 := HK.out.k.box.c3; have x4 := HK.out.k.box.c4; clear hb; have y0 := HK.out.k.res.c0; have y1 := HK.out.k.res.c1; have y2 := HK.out.k.res.c2; have y3 := HK.out.k.res.c3; have y4 := HK.out.k.res.c4; have f0 := HK.out.k.res.fr 0; have f1 := HK.out.k.res.fr 1; have f2 := HK.out.k.res.fr 2; have f3 := HK.out.k.res.fr 3; have f4 := HK.out.k.res.fr 4; have HS := Lib.hid (HK.out.k.res.set 0 0 0 0 (.slice none 0 0)); have z0 := HS.out.c0; have z1 := HS.out.c1; have z2 := HS.out.c2; have z3 := HS.out.c3; have z4 := HS.out.c4))
      exact bodyPost_ret (v := .tuple #[A5 0 0 0 0 (.slice none 0 0), .int .i64 15]) (by simp [results, Tryz.results125, go_sem, z0, z1, z2, z3, z4]) rfl (retE_no _ (st5_below _ _ _ _ _ (by omega) HK.out.k.bel))
    · have hx0 : 0 ≤ x := by omega
      have hx4 : x ≤ 400 := by omega
      rw [if_neg h2]
      rw [orNo_yes rfl]
      go_enter Tryz.func125, Tryz.ntmps125
      go_wp2_with (first
        | (go_at_call 154; (with_reducible refine (HMn.out _ HK.out.rln).mono ?_); rintro e w1 ⟨rfl, hb⟩; have HK2 := Lib.hid (HK.out.next hb); clear HK x0 x1 x2 x3 x4; have HK := HK2; clear HK2; have x0 := HK.out.k.box.c0; have x1 := HK.out.k.box.c1; have x2 := HK.out.k.box.c2; have x3 := HK.out.k.box.c3; have x4 := HK.out.k.box.c4; clear hb)
        | (go_at_call 155; (with_reducible refine (HMx.out _ HK.out.rln).mono ?_); rintro e w1 ⟨rfl, hb⟩; have HK2 := Lib.hid (HK.out.next hb); clear HK x0 x1 x2 x3 x4; have HK := HK2; clear HK2; have x0 := HK.out.k.box.c0; have x1 := HK.out.k.box.c1; have x2 := HK.out.k.box.c2; have x3 := HK.out.k.box.c3; have x4 := HK.out.k.box.c4; clear hb))
      obtain ⟨bq, oq, heq, hnum⟩ := HK.out.num (by simp)
      cases heq
      have HNum := Lib.hid hnum
      clear hnum
      have HL0 : Hid (KgL w A (.slice p A.z.length cap) (.slice (some ⟨bu, ou, none⟩) 1 cu) [x] w1.heap.size 0 0 (w1.alloc (.cells #[.int .i64 0, .int .i64 0] 40))) := ⟨HK.out.next (bel1 w1 _), R2.new w1 0 0⟩
      have hgs : w.heap.size + 2 ≤ w1.heap.size := HK.out.k.sz
      have hq0 := HNum.out _ HL0.out.m.rl 0 (by simp)
      rw [Nat.add_zero, List.getElem_cons_zero] at hq0
      clear HK x0 x1 x2 x3 x4
      generalize w1.alloc (.cells #[.int .i64 0, .int .i64 0] 40) = W1 at HL0 hq0 ⊢
      have l0 := HL0.out.bx.c0; have l1 := HL0.out.bx.c1; have lf := HL0.out.bx.fr 0
      have HL1 := Lib.hid (HL0.out.put0 HW3.out hgs x)
      have hw1 : IntKind.i64.wrap 1 = 1 := by rw [IntKind.wrap_i64]; omega
      have hzb : ((A.z.length : Int) == 0) = false := by simpa using (show ¬ ((A.z.length : Int) = 0) by omega)
      obtain ⟨n, hn⟩ : ∃ n : Nat, x = n := ⟨x.toNat, by omega⟩
      have hn4 : n ≤ 400 := by omega
      have hck : ck ⟨A.k, 1, x, 0, List.replicate n 0⟩ = 0 := good_ck ⟨hA.kind, Sh.s1 x hx0 hx4, by simp [cn, hn], fun _ => zeros_all _⟩
      have HBl := Lib.hid (fun W hw => blank_ok hck W hw (by simp; omega) (by omega))
      have HNn : Hid (x.toNat = n) := by unfold Hid; rw [hn]; rfl
      clear hn hck
      have v0 := HL1.out.bx.c0; have v1 := HL1.out.bx.c1; have xb0 := HL1.out.m.k.box.c0; have xb1 := HL1.out.m.k.box.c1; have xb2 := HL1.out.m.k.box.c2; have xb3 := HL1.out.m.k.box.c3; have xb4 := HL1.out.m.k.box.c4
      refine wp_loop_rounds 8 ?_
      rw [rounds_succ]
      go_wp2
      rw [rounds_succ]
      go_wp2_with (go_at_call 110; (with_reducible refine (HBl.out _ HL1.out.m.k.lay).mono ?_); rintro e w2 ⟨g, rfl, hg1, hg2, hrow, hb⟩; have hgg : w.heap.size + 1 < g := (by have := HL1.out.m.k.sz; omega); have HM2 := Lib.hid ((HL1.out.m.next hb).next (bel1 w2 (.cells #[.int .i64 A.k, .int .i64 1, .int .i64 x, .int .i64 0, .slice (some ⟨g, 0, none⟩) n n] 43))); have HR2 := Lib.hid (hrow.alloc (.cells #[.int .i64 A.k, .int .i64 1, .int .i64 x, .int .i64 0, .slice (some ⟨g, 0, none⟩) n n] 43)); have HB2 := Lib.hid (R5.new w2 A.k 1 x 0 (.slice (some ⟨g, 0, none⟩) n n)); clear hb hrow hg1 v0 v1 xb0 xb1 xb2 xb3 xb4 l0 l1 lf hq0; have b0 := HB2.out.c0; have b1 := HB2.out.c1; have b2 := HB2.out.c2; have b3 := HB2.out.c3; have b4 := HB2.out.c4; have x4 := HM2.out.k.box.c4)
      have HG0 : Hid (Kg w A (.slice p A.z.length cap) (.slice (some ⟨bu, ou, none⟩) 1 cu) [x] 1 x 0 n g w2.heap.size 0 (some ⟨g, 0, none⟩) (w2.alloc (.cells #[.int .i64 A.k, .int .i64 1, .int .i64 x, .int .i64 0, .slice (some ⟨g, 0, none⟩) n n] 43))) := ⟨HM2.out, HB2.out, HR2.out.congr fun i _ => by rw [agF_zero], fun _ => ⟨rfl, Nat.zero_mod _⟩⟩
      have hgb : w2.heap.size ≠ g := by omega
      clear HM2 HB2 HR2 b0 b1 b2 b3 b4 x4 HL1
      generalize w2.alloc (.cells #[.int .i64 A.k, .int .i64 1, .int .i64 x, .int .i64 0, .slice (some ⟨g, 0, none⟩) n n] 43) = W5 at HG0 ⊢
      go_loopg [13] n (fun gk q wr => ∃ (o : Nat) (qa : Option Addr), o + gk = n ∧ q = .slice qa gk gk ∧ Kg w A (.slice p A.z.length cap) (.slice (some ⟨bu, ou, none⟩) 1 cu) [x] 1 x 0 n g w2.heap.size o qa wr)
      case atStart => exact ⟨0, some ⟨g, 0, none⟩, by omega, rfl, HG0.out⟩
      case round =>
        obtain ⟨o, qa, hog, rfl, hk⟩ := hrel
        have HG := Lib.hid hk
        clear hk HG0
        by_cases h0 : gk = 0
        · subst h0
          have hz0 : ¬ ((0 : Int) < ((0 : Nat) : Int)) := by omega
          have HF : Hid (rowZ wr g n (fun i => (agn n A.z).getD i 0)) := HG.out.row.congr fun i hi => by unfold agF; rw [if_pos (by omega), agn_getD hi]
          have b0 := HG.out.bx.c0; have b1 := HG.out.bx.c1; have b2 := HG.out.bx.c2; have b3 := HG.out.bx.c3; have b4 := HG.out.bx.c4
          have y0 := HG.out.m.k.res.c0; have y1 := HG.out.m.k.res.c1; have y2 := HG.out.m.k.res.c2; have y3 := HG.out.m.k.res.c3; have y4 := HG.out.m.k.res.c4; have f0 := HG.out.m.k.res.fr 0; have f1 := HG.out.m.k.res.fr 1; have f2 := HG.out.m.k.res.fr 2; have f3 := HG.out.m.k.res.fr 3; have f4 := HG.out.m.k.res.fr 4; have HS := Lib.hid (HG.out.m.k.res.set A.k 1 x 0 (.slice (some ⟨g, 0, none⟩) n n)); have z0 := HS.out.c0; have z1 := HS.out.c1; have z2 := HS.out.c2; have z3 := HS.out.c3; have z4 := HS.out.c4
          go_wp2
          refine bodyPost_ret (v := .tuple #[A5 A.k 1 x 0 (.slice (some ⟨g, 0, none⟩) n n), .int .i64 0]) (by simp [results, Tryz.results125, go_sem, z0, z1, z2, z3, z4]) rfl ?_
          exact ⟨_, rfl, zf_new (by rw [HNn.out]; exact agn_len _ _) (World.rowIs.of_block (by rw [HNn.out]; exact HF.out.zf) (st5_other _ _ _ _ _ (by omega))) (by omega) (by omega), st5_below _ _ _ _ _ (by omega) HG.out.m.k.bel⟩
        · have hg0 : (0 : Int) < (gk : Int) := by omega
          have hon : o < n := by omega
          obtain ⟨rfl, hmod⟩ := HG.out.pos hon
          obtain ⟨c, hc⟩ : ∃ c, c = min A.z.length gk := ⟨_, rfl⟩
          have hc0 : 0 < c := by omega
          obtain ⟨w6, hcp, hrow, hbut⟩ := copy_run HG.out.row o gk gk HG.out.m.k.rd c hc (by omega)
          have HC := Lib.hid hc
          have HRow := Lib.hid hrow
          have HBut := Lib.hid hbut
          have hcg : c ≤ gk := by omega
          have x4 := HG.out.m.k.box.c4
          clear hrow hbut hc hmod h0
          by_cases hcn : c = gk
          · have HNx : Hid (Kg w A (.slice p A.z.length cap) (.slice (some ⟨bu, ou, none⟩) 1 cu) [x] 1 x 0 n g w2.heap.size (o + c) (some ⟨g, o, none⟩) w6) := HG.out.next hgg hgb hon (by rw [show n - o = gk by omega]; exact HC.out) (fun h => absurd h (by omega)) HBut.out (HG.out.m.k.lay.below HW3.out (HBut.out.below (by omega))) HRow.out
            subst hcn
            go_wp2
            go_roundg 0
            case measure => omega
            case rel => exact ⟨o + c, _, by omega, rfl, HNx.out⟩
          · have HNx : Hid (Kg w A (.slice p A.z.length cap) (.slice (some ⟨bu, ou, none⟩) 1 cu) [x] 1 x 0 n g w2.heap.size (o + c) (some ⟨g, o + c, none⟩) w6) := HG.out.next hgg hgb hon (by rw [show n - o = gk by omega]; exact HC.out) (fun _ => rfl) HBut.out (HG.out.m.k.lay.below HW3.out (HBut.out.below (by omega))) HRow.out
            have hcl : c < gk := by omega
            have hcz : 0 < gk - c := by omega
            have hci : (c : Int) ≤ (gk : Int) := by omega
            clear hcn
            go_wp2
            go_roundg (gk - c)
            case measure => omega
            case rel => exact ⟨o + c, _, by omega, rfl, HNx.out⟩

set_option maxRecDepth 100000 in
set_option maxHeartbeats 16000000 in
theorem again2_any (A : Ar) (v u : Value) (x y : Int) (w : World) (hw : Ru.Lay w) (hA : Good A) (hv : RdI w.heap.size w v A.z) (hu : RdI w.heap.size w u [x, y]) :
    Calls Tryz.prog 125 #[A5 A.k A.r A.a A.b v, .int .i64 2, u] w (RetE (orNo (if x < 0 ∨ y < 0 then 13 else if 400 < x ∨ 400 < y ∨ 400 < x * y then 15 else if A.z.length = 0 ∧ 0 < x * y then 13 else 0) ⟨A.k, 2, x, y, agn (x * y).toNat A.z⟩) (if x < 0 ∨ y < 0 then 13 else if 400 < x ∨ 400 < y ∨ 400 < x * y then 15 else if A.z.length = 0 ∧ 0 < x * y then 13 else 0) w) := by
  have hl : A.z.length ≤ 400 := hA.len4
  have HMn := Lib.hid (fun W h => min_any u [x, y] W h (by simp) (by simp))
  have HMx := Lib.hid (fun W h => max_any u [x, y] W h (by simp) (by simp))
  have HK := Lib.hid (MA.new (A := A) hw hv hu)
  have HW3 := Lib.hid hw.size
  have x0 := HK.out.k.box.c0; have x1 := HK.out.k.box.c1; have x2 := HK.out.k.box.c2; have x3 := HK.out.k.box.c3; have x4 := HK.out.k.box.c4
  obtain ⟨p, cap, rfl, hcap, hcap2, hcell⟩ := hv
  obtain ⟨pu, cu, rfl, hcu, hcu2, hcellu⟩ := hu
  have hcellu2 := hcellu (by simp)
  obtain ⟨bu, ou, rfl, _, _⟩ := hcellu2
  clear hcell hcellu hw
  simp only [List.length_cons, List.length_nil, Nat.zero_add, Nat.reduceAdd] at hcu HMn HMx HK ⊢
  rw [(lmn_two x y).1] at HMn
  rw [(lmn_two x y).2] at HMx
  by_cases h1 : x < 0 ∨ y < 0
  · rw [if_pos h1, orNo_no (by decide)]
    have h1m : min x y < 0 := by omega
    generalize min x y = mi at h1m HMn
    clear h1
    go_enter Tryz.func125, Tryz.ntmps125
    go_wp2_with (go_at_call 154; (with_reducible refine (HMn.out _ HK.out.rln).mono ?_); rintro e w1 ⟨rfl, hb⟩; have HK2 := Lib.hid (HK.out.next hb); clear HK x0 x1 x2 x3 x4; have HK := HK2; clear HK2; have x0 := HK.out.k.box.c0; have x1 := HK.out.k.box.c1; have x2 := HK.out.k.box.c2; have x3 := HK.out.k.box.c3; have x4 := HK.out.k.box.c4; clear hb; have y0 := HK.out.k.res.c0; have y1 := HK.out.k.res.c1; have y2 := HK.out.k.res.c2; have y3 := HK.out.k.res.c3; have y4 := HK.out.k.res.c4; have f0 := HK.out.k.res.fr 0; have f1 := HK.out.k.res.fr 1; have f2 := HK.out.k.res.fr 2; have f3 := HK.out.k.res.fr 3; have f4 := HK.out.k.res.fr 4; have HS := Lib.hid (HK.out.k.res.set 0 0 0 0 (.slice none 0 0)); have z0 := HS.out.c0; have z1 := HS.out.c1; have z2 := HS.out.c2; have z3 := HS.out.c3; have z4 := HS.out.c4)
    exact bodyPost_ret (v := .tuple #[A5 0 0 0 0 (.slice none 0 0), .int .i64 13]) (by simp [results, Tryz.results125, go_sem, z0, z1, z2, z3, z4]) rfl (retE_no _ (st5_below _ _ _ _ _ (by omega) HK.out.k.bel))
  · rw [if_neg h1]
    by_cases h2 : 400 < x ∨ 400 < y
    · rw [if_pos (by omega), orNo_no (by decide)]
      have h1m : ¬ min x y < 0 := by omega
      have h2m : max x y > 400 := by omega
      generalize min x y = mi at h1m HMn
      generalize max x y = ma at h2m HMx
      clear h1 h2
      go_enter Tryz.func125, Tryz.ntmps125
      go_wp2_with (first
        | (go_at_call 154; (with_reducible refine (HMn.out _ HK.out.rln).mono ?_); rintro e w1 ⟨rfl, hb⟩; have HK2 := Lib.hid (HK.out.next hb); clear HK x0 x1 x2 x3 x4; have HK := HK2; clear HK2; have x0 := HK.out.k.box.c0; have x1 := HK.out.k.box.c1; have x2 := HK.out.k.box.c2; have x3 := HK.out.k.box.c3; have x4 := HK.out.k.box.c4; clear hb)
        | (go_at_call 155; (with_reducible refine (HMx.out _ HK.out.rln).mono ?_); rintro e w1 ⟨rfl, hb⟩; have HK2 := Lib.hid (HK.out.next hb); clear HK x0 x1 x2 x3 x4; have HK := HK2; clear HK2; have x0 := HK.out.k.box.c0; have x1 := HK.out.k.box.c1; have x2 := HK.out.k.box.c2; have x3 := HK.out.k.box.c3; have x4 := HK.out.k.box.c4; clear hb; have y0 := HK.out.k.res.c0; have y1 := HK.out.k.res.c1; have y2 := HK.out.k.res.c2; have y3 := HK.out.k.res.c3; have y4 := HK.out.k.res.c4; have f0 := HK.out.k.res.fr 0; have f1 := HK.out.k.res.fr 1; have f2 := HK.out.k.res.fr 2; have f3 := HK.out.k.res.fr 3; have f4 := HK.out.k.res.fr 4; have HS := Lib.hid (HK.out.k.res.set 0 0 0 0 (.slice none 0 0)); have z0 := HS.out.c0; have z1 := HS.out.c1; have z2 := HS.out.c2; have z3 := HS.out.c3; have z4 := HS.out.c4))
      exact bodyPost_ret (v := .tuple #[A5 0 0 0 0 (.slice none 0 0), .int .i64 15]) (by simp [results, Tryz.results125, go_sem, z0, z1, z2, z3, z4]) rfl (retE_no _ (st5_below _ _ _ _ _ (by omega) HK.out.k.bel))
    · have hx0 : 0 ≤ x := by omega
      have hx4 : x ≤ 400 := by omega
      have hy0 : 0 ≤ y := by omega
      have hy4 : y ≤ 400 := by omega
      have h1m : ¬ min x y < 0 := by omega
      have h2m : ¬ max x y > 400 := by omega
      generalize min x y = mi at h1m HMn
      generalize max x y = ma at h2m HMx
      clear h1 h2
      by_cases h3 : 400 < x * y
      · rw [if_pos (by omega), orNo_no (by decide)]
        obtain ⟨n, hn⟩ : ∃ n : Nat, x * y = n := ⟨(x * y).toNat, by omega⟩
        have hn4 : n ≤ 1000000 := by have := Int.mul_le_mul hx4 hy4 hy0 (by omega : (0:Int) ≤ 400); omega
        have hcs : ckS 2 x y = 15 := by unfold ckS; rw [if_neg (by omega), if_neg (by omega), if_pos (by unfold cn; rw [if_neg (by decide), if_neg (by decide)]; omega)]
        have hck : ck ⟨A.k, 2, x, y, List.replicate n 0⟩ = 15 := by rw [ck_zeros hA.kind (fun h => by rw [hcs] at h; cases h), hcs]
        have HBl := Lib.hid (fun W hw => blank_no (by rw [hck]; decide) W hw (by simp; exact hn) hn4)
        rw [hck] at HBl
        clear hn hck hcs h3
        go_enter Tryz.func125, Tryz.ntmps125
        go_wp2_with (first
          | (go_at_call 154; (with_reducible refine (HMn.out _ HK.out.rln).mono ?_); rintro e w1 ⟨rfl, hb⟩; have HK2 := Lib.hid (HK.out.next hb); clear HK x0 x1 x2 x3 x4; have HK := HK2; clear HK2; have x0 := HK.out.k.box.c0; have x1 := HK.out.k.box.c1; have x2 := HK.out.k.box.c2; have x3 := HK.out.k.box.c3; have x4 := HK.out.k.box.c4; clear hb)
          | (go_at_call 155; (with_reducible refine (HMx.out _ HK.out.rln).mono ?_); rintro e w1 ⟨rfl, hb⟩; have HK2 := Lib.hid (HK.out.next hb); clear HK x0 x1 x2 x3 x4; have HK := HK2; clear HK2; have x0 := HK.out.k.box.c0; have x1 := HK.out.k.box.c1; have x2 := HK.out.k.box.c2; have x3 := HK.out.k.box.c3; have x4 := HK.out.k.box.c4; clear hb))
        obtain ⟨bq, oq, heq, hnum⟩ := HK.out.num (by simp)
        cases heq
        have HNum := Lib.hid hnum
        clear hnum
        have HL0 : Hid (KgL w A (.slice p A.z.length cap) (.slice (some ⟨bu, ou, none⟩) 2 cu) [x, y] w1.heap.size 0 0 (w1.alloc (.cells #[.int .i64 0, .int .i64 0] 40))) := ⟨HK.out.next (bel1 w1 _), R2.new w1 0 0⟩
        have hgs : w.heap.size + 2 ≤ w1.heap.size := HK.out.k.sz
        have hq0 := HNum.out _ HL0.out.m.rl 0 (by simp)
        rw [Nat.add_zero, List.getElem_cons_zero] at hq0
        clear HK x0 x1 x2 x3 x4
        generalize w1.alloc (.cells #[.int .i64 0, .int .i64 0] 40) = W1 at HL0 hq0 ⊢
        have l0 := HL0.out.bx.c0; have l1 := HL0.out.bx.c1; have lf := HL0.out.bx.fr 0
        have HL1 := Lib.hid (HL0.out.put0 HW3.out hgs x)
        have hw1 : IntKind.i64.wrap 1 = 1 := by rw [IntKind.wrap_i64]; omega
        have hq1 := HNum.out _ HL1.out.m.rl 1 (by simp)
        rw [List.getElem_cons_succ, List.getElem_cons_zero] at hq1
        have lf1 := HL1.out.bx.fr 1; have l2 := HL1.out.bx.c1
        have HL2 := Lib.hid (HL1.out.put1 HW3.out hgs y)
        have v0 := HL2.out.bx.c0; have v1 := HL2.out.bx.c1; have xb0 := HL2.out.m.k.box.c0; have xb1 := HL2.out.m.k.box.c1; have xb2 := HL2.out.m.k.box.c2; have xb3 := HL2.out.m.k.box.c3; have xb4 := HL2.out.m.k.box.c4
        refine wp_loop_rounds 8 ?_
        rw [rounds_succ]
        go_wp2
        rw [rounds_succ]
        go_wp2
        rw [rounds_succ]
        go_wp2_with (go_at_call 110; (with_reducible refine (HBl.out _ HL2.out.m.k.lay).mono ?_); rintro e w2 ⟨q, c, rfl, hb⟩; have HM2 := Lib.hid ((HL2.out.m.next hb).next (bel1 w2 (.cells #[.int .i64 0, .int .i64 0, .int .i64 0, .int .i64 0, .slice q 0 c] 43))); clear hb v0 v1 xb0 xb1 xb2 xb3 xb4 l0 l1 lf hq0 hq1 lf1 l2; have y0 := HM2.out.k.res.c0; have y1 := HM2.out.k.res.c1; have y2 := HM2.out.k.res.c2; have y3 := HM2.out.k.res.c3; have y4 := HM2.out.k.res.c4; have f0 := HM2.out.k.res.fr 0; have f1 := HM2.out.k.res.fr 1; have f2 := HM2.out.k.res.fr 2; have f3 := HM2.out.k.res.fr 3; have f4 := HM2.out.k.res.fr 4; have HS := Lib.hid (HM2.out.k.res.set 0 0 0 0 (.slice none 0 0)); have z0 := HS.out.c0; have z1 := HS.out.c1; have z2 := HS.out.c2; have z3 := HS.out.c3; have z4 := HS.out.c4)
        exact bodyPost_ret (v := .tuple #[A5 0 0 0 0 (.slice none 0 0), .int .i64 15]) (by simp [results, Tryz.results125, go_sem, z0, z1, z2, z3, z4]) rfl (retE_no _ (st5_below _ _ _ _ _ (by omega) HM2.out.k.bel))
      · rw [if_neg (by omega)]
        by_cases h4 : A.z.length = 0 ∧ 0 < x * y
        · rw [if_pos h4, orNo_no (by decide)]
          have HH4 := Lib.hid h4
          clear h4
          obtain ⟨n, hn⟩ : ∃ n : Nat, x * y = n := ⟨(x * y).toNat, by have := Int.mul_nonneg hx0 hy0; omega⟩
          have hn4 : n ≤ 400 := by omega
          have hck : ck ⟨A.k, 2, x, y, List.replicate n 0⟩ = 0 := good_ck ⟨hA.kind, Sh.s2 x y hx0 hx4 hy0 hy4 (by omega), by simp [cn, hn], fun _ => zeros_all _⟩
          have HBl := Lib.hid (fun W hw => blank_ok hck W hw (by simp; exact hn) (by omega))
          have HNn : Hid ((x * y).toNat = n) := by unfold Hid; rw [hn]; rfl
          clear hn hck
          have HNi : Hid (x * y = (n : Int)) := by have := HNn.out; have := Int.mul_nonneg hx0 hy0; unfold Hid; omega
          clear h3
          go_enter Tryz.func125, Tryz.ntmps125
          go_wp2_with (first
            | (go_at_call 154; (with_reducible refine (HMn.out _ HK.out.rln).mono ?_); rintro e w1 ⟨rfl, hb⟩; have HK2 := Lib.hid (HK.out.next hb); clear HK x0 x1 x2 x3 x4; have HK := HK2; clear HK2; have x0 := HK.out.k.box.c0; have x1 := HK.out.k.box.c1; have x2 := HK.out.k.box.c2; have x3 := HK.out.k.box.c3; have x4 := HK.out.k.box.c4; clear hb)
            | (go_at_call 155; (with_reducible refine (HMx.out _ HK.out.rln).mono ?_); rintro e w1 ⟨rfl, hb⟩; have HK2 := Lib.hid (HK.out.next hb); clear HK x0 x1 x2 x3 x4; have HK := HK2; clear HK2; have x0 := HK.out.k.box.c0; have x1 := HK.out.k.box.c1; have x2 := HK.out.k.box.c2; have x3 := HK.out.k.box.c3; have x4 := HK.out.k.box.c4; clear hb))
          obtain ⟨bq, oq, heq, hnum⟩ := HK.out.num (by simp)
          cases heq
          have HNum := Lib.hid hnum
          clear hnum
          have HL0 : Hid (KgL w A (.slice p A.z.length cap) (.slice (some ⟨bu, ou, none⟩) 2 cu) [x, y] w1.heap.size 0 0 (w1.alloc (.cells #[.int .i64 0, .int .i64 0] 40))) := ⟨HK.out.next (bel1 w1 _), R2.new w1 0 0⟩
          have hgs : w.heap.size + 2 ≤ w1.heap.size := HK.out.k.sz
          have hq0 := HNum.out _ HL0.out.m.rl 0 (by simp)
          rw [Nat.add_zero, List.getElem_cons_zero] at hq0
          clear HK x0 x1 x2 x3 x4
          generalize w1.alloc (.cells #[.int .i64 0, .int .i64 0] 40) = W1 at HL0 hq0 ⊢
          have l0 := HL0.out.bx.c0; have l1 := HL0.out.bx.c1; have lf := HL0.out.bx.fr 0
          have HL1 := Lib.hid (HL0.out.put0 HW3.out hgs x)
          have hw1 : IntKind.i64.wrap 1 = 1 := by rw [IntKind.wrap_i64]; omega
          have hq1 := HNum.out _ HL1.out.m.rl 1 (by simp)
          rw [List.getElem_cons_succ, List.getElem_cons_zero] at hq1
          have lf1 := HL1.out.bx.fr 1; have l2 := HL1.out.bx.c1
          have HL2 := Lib.hid (HL1.out.put1 HW3.out hgs y)
          have hzb : ((A.z.length : Int) == 0) = true := by simpa using HH4.out.1
          have hnp : (0 : Int) < (n : Int) := by have := HNi.out; have := HH4.out.2; omega
          have v0 := HL2.out.bx.c0; have v1 := HL2.out.bx.c1; have xb0 := HL2.out.m.k.box.c0; have xb1 := HL2.out.m.k.box.c1; have xb2 := HL2.out.m.k.box.c2; have xb3 := HL2.out.m.k.box.c3; have xb4 := HL2.out.m.k.box.c4
          refine wp_loop_rounds 8 ?_
          rw [rounds_succ]
          go_wp2
          rw [rounds_succ]
          go_wp2
          rw [rounds_succ]
          go_wp2_with (go_at_call 110; (with_reducible refine (HBl.out _ HL2.out.m.k.lay).mono ?_); rintro e w2 ⟨g, rfl, hg1, hg2, hrow, hb⟩; have hgg : w.heap.size + 1 < g := (by have := HL2.out.m.k.sz; omega); have HM2 := Lib.hid ((HL2.out.m.next hb).next (bel1 w2 (.cells #[.int .i64 A.k, .int .i64 2, .int .i64 x, .int .i64 y, .slice (some ⟨g, 0, none⟩) n n] 43))); have HR2 := Lib.hid (hrow.alloc (.cells #[.int .i64 A.k, .int .i64 2, .int .i64 x, .int .i64 y, .slice (some ⟨g, 0, none⟩) n n] 43)); have HB2 := Lib.hid (R5.new w2 A.k 2 x y (.slice (some ⟨g, 0, none⟩) n n)); clear hb hrow hg1 v0 v1 xb0 xb1 xb2 xb3 xb4 l0 l1 lf hq0 hq1 lf1 l2; have b0 := HB2.out.c0; have b1 := HB2.out.c1; have b2 := HB2.out.c2; have b3 := HB2.out.c3; have b4 := HB2.out.c4; have x4 := HM2.out.k.box.c4; have y0 := HM2.out.k.res.c0; have y1 := HM2.out.k.res.c1; have y2 := HM2.out.k.res.c2; have y3 := HM2.out.k.res.c3; have y4 := HM2.out.k.res.c4; have f0 := HM2.out.k.res.fr 0; have f1 := HM2.out.k.res.fr 1; have f2 := HM2.out.k.res.fr 2; have f3 := HM2.out.k.res.fr 3; have f4 := HM2.out.k.res.fr 4)
          have HS := Lib.hid (HM2.out.k.res.set 0 0 0 0 (.slice none 0 0)); have z0 := HS.out.c0; have z1 := HS.out.c1; have z2 := HS.out.c2; have z3 := HS.out.c3; have z4 := HS.out.c4
          exact bodyPost_ret (v := .tuple #[A5 0 0 0 0 (.slice none 0 0), .int .i64 13]) (by simp [results, Tryz.results125, go_sem, z0, z1, z2, z3, z4]) rfl (retE_no _ (st5_below _ _ _ _ _ (by omega) HM2.out.k.bel))
        · rw [if_neg h4, orNo_yes rfl]
          have HH4 := Lib.hid h4
          clear h4
          by_cases h5 : A.z.length = 0
          · have HH5 := Lib.hid h5
            clear h5
            obtain ⟨n, hn⟩ : ∃ n : Nat, x * y = n := ⟨(x * y).toNat, by have := Int.mul_nonneg hx0 hy0; omega⟩
            have hn4 : n ≤ 400 := by omega
            have hck : ck ⟨A.k, 2, x, y, List.replicate n 0⟩ = 0 := good_ck ⟨hA.kind, Sh.s2 x y hx0 hx4 hy0 hy4 (by omega), by simp [cn, hn], fun _ => zeros_all _⟩
            have HBl := Lib.hid (fun W hw => blank_ok hck W hw (by simp; exact hn) (by omega))
            have HNn : Hid ((x * y).toNat = n) := by unfold Hid; rw [hn]; rfl
            clear hn hck
            have HNi : Hid (x * y = (n : Int)) := by have := HNn.out; have := Int.mul_nonneg hx0 hy0; unfold Hid; omega
            clear h3
            go_enter Tryz.func125, Tryz.ntmps125
            go_wp2_with (first
              | (go_at_call 154; (with_reducible refine (HMn.out _ HK.out.rln).mono ?_); rintro e w1 ⟨rfl, hb⟩; have HK2 := Lib.hid (HK.out.next hb); clear HK x0 x1 x2 x3 x4; have HK := HK2; clear HK2; have x0 := HK.out.k.box.c0; have x1 := HK.out.k.box.c1; have x2 := HK.out.k.box.c2; have x3 := HK.out.k.box.c3; have x4 := HK.out.k.box.c4; clear hb)
              | (go_at_call 155; (with_reducible refine (HMx.out _ HK.out.rln).mono ?_); rintro e w1 ⟨rfl, hb⟩; have HK2 := Lib.hid (HK.out.next hb); clear HK x0 x1 x2 x3 x4; have HK := HK2; clear HK2; have x0 := HK.out.k.box.c0; have x1 := HK.out.k.box.c1; have x2 := HK.out.k.box.c2; have x3 := HK.out.k.box.c3; have x4 := HK.out.k.box.c4; clear hb))
            obtain ⟨bq, oq, heq, hnum⟩ := HK.out.num (by simp)
            cases heq
            have HNum := Lib.hid hnum
            clear hnum
            have HL0 : Hid (KgL w A (.slice p A.z.length cap) (.slice (some ⟨bu, ou, none⟩) 2 cu) [x, y] w1.heap.size 0 0 (w1.alloc (.cells #[.int .i64 0, .int .i64 0] 40))) := ⟨HK.out.next (bel1 w1 _), R2.new w1 0 0⟩
            have hgs : w.heap.size + 2 ≤ w1.heap.size := HK.out.k.sz
            have hq0 := HNum.out _ HL0.out.m.rl 0 (by simp)
            rw [Nat.add_zero, List.getElem_cons_zero] at hq0
            clear HK x0 x1 x2 x3 x4
            generalize w1.alloc (.cells #[.int .i64 0, .int .i64 0] 40) = W1 at HL0 hq0 ⊢
            have l0 := HL0.out.bx.c0; have l1 := HL0.out.bx.c1; have lf := HL0.out.bx.fr 0
            have HL1 := Lib.hid (HL0.out.put0 HW3.out hgs x)
            have hw1 : IntKind.i64.wrap 1 = 1 := by rw [IntKind.wrap_i64]; omega
            have hq1 := HNum.out _ HL1.out.m.rl 1 (by simp)
            rw [List.getElem_cons_succ, List.getElem_cons_zero] at hq1
            have lf1 := HL1.out.bx.fr 1; have l2 := HL1.out.bx.c1
            have HL2 := Lib.hid (HL1.out.put1 HW3.out hgs y)
            have hzb : ((A.z.length : Int) == 0) = true := by simpa using HH5.out
            have hnp : ¬ (0 : Int) < (n : Int) := fun h => HH4.out ⟨HH5.out, by rw [HNi.out]; exact h⟩
            have v0 := HL2.out.bx.c0; have v1 := HL2.out.bx.c1; have xb0 := HL2.out.m.k.box.c0; have xb1 := HL2.out.m.k.box.c1; have xb2 := HL2.out.m.k.box.c2; have xb3 := HL2.out.m.k.box.c3; have xb4 := HL2.out.m.k.box.c4
            refine wp_loop_rounds 8 ?_
            rw [rounds_succ]
            go_wp2
            rw [rounds_succ]
            go_wp2
            rw [rounds_succ]
            go_wp2_with (go_at_call 110; (with_reducible refine (HBl.out _ HL2.out.m.k.lay).mono ?_); rintro e w2 ⟨g, rfl, hg1, hg2, hrow, hb⟩; have hgg : w.heap.size + 1 < g := (by have := HL2.out.m.k.sz; omega); have HM2 := Lib.hid ((HL2.out.m.next hb).next (bel1 w2 (.cells #[.int .i64 A.k, .int .i64 2, .int .i64 x, .int .i64 y, .slice (some ⟨g, 0, none⟩) n n] 43))); have HR2 := Lib.hid (hrow.alloc (.cells #[.int .i64 A.k, .int .i64 2, .int .i64 x, .int .i64 y, .slice (some ⟨g, 0, none⟩) n n] 43)); have HB2 := Lib.hid (R5.new w2 A.k 2 x y (.slice (some ⟨g, 0, none⟩) n n)); clear hb hrow hg1 v0 v1 xb0 xb1 xb2 xb3 xb4 l0 l1 lf hq0 hq1 lf1 l2; have b0 := HB2.out.c0; have b1 := HB2.out.c1; have b2 := HB2.out.c2; have b3 := HB2.out.c3; have b4 := HB2.out.c4; have x4 := HM2.out.k.box.c4)
            clear hzb
            have HG0 : Hid (Kg w A (.slice p A.z.length cap) (.slice (some ⟨bu, ou, none⟩) 2 cu) [x, y] 2 x y n g w2.heap.size 0 (some ⟨g, 0, none⟩) (w2.alloc (.cells #[.int .i64 A.k, .int .i64 2, .int .i64 x, .int .i64 y, .slice (some ⟨g, 0, none⟩) n n] 43))) := ⟨HM2.out, HB2.out, HR2.out.congr fun i _ => by rw [agF_zero], fun _ => ⟨rfl, Nat.zero_mod _⟩⟩
            have hgb : w2.heap.size ≠ g := by omega
            clear HM2 HB2 HR2 b0 b1 b2 b3 b4 x4 HL2
            generalize w2.alloc (.cells #[.int .i64 A.k, .int .i64 2, .int .i64 x, .int .i64 y, .slice (some ⟨g, 0, none⟩) n n] 43) = W5 at HG0 ⊢
            go_loopg [13] n (fun gk q wr => ∃ (o : Nat) (qa : Option Addr), o + gk = n ∧ q = .slice qa gk gk ∧ Kg w A (.slice p A.z.length cap) (.slice (some ⟨bu, ou, none⟩) 2 cu) [x, y] 2 x y n g w2.heap.size o qa wr)
            case atStart => exact ⟨0, some ⟨g, 0, none⟩, by omega, rfl, HG0.out⟩
            case round =>
              obtain ⟨o, qa, hog, rfl, hk⟩ := hrel
              have HG := Lib.hid hk
              clear hk HG0
              by_cases h0 : gk = 0
              · subst h0
                have hz0 : ¬ ((0 : Int) < ((0 : Nat) : Int)) := by omega
                have HF : Hid (rowZ wr g n (fun i => (agn n A.z).getD i 0)) := HG.out.row.congr fun i hi => by unfold agF; rw [if_pos (by omega), agn_getD hi]
                have b0 := HG.out.bx.c0; have b1 := HG.out.bx.c1; have b2 := HG.out.bx.c2; have b3 := HG.out.bx.c3; have b4 := HG.out.bx.c4
                have y0 := HG.out.m.k.res.c0; have y1 := HG.out.m.k.res.c1; have y2 := HG.out.m.k.res.c2; have y3 := HG.out.m.k.res.c3; have y4 := HG.out.m.k.res.c4; have f0 := HG.out.m.k.res.fr 0; have f1 := HG.out.m.k.res.fr 1; have f2 := HG.out.m.k.res.fr 2; have f3 := HG.out.m.k.res.fr 3; have f4 := HG.out.m.k.res.fr 4; have HS := Lib.hid (HG.out.m.k.res.set A.k 2 x y (.slice (some ⟨g, 0, none⟩) n n)); have z0 := HS.out.c0; have z1 := HS.out.c1; have z2 := HS.out.c2; have z3 := HS.out.c3; have z4 := HS.out.c4
                go_wp2
                refine bodyPost_ret (v := .tuple #[A5 A.k 2 x y (.slice (some ⟨g, 0, none⟩) n n), .int .i64 0]) (by simp [results, Tryz.results125, go_sem, z0, z1, z2, z3, z4]) rfl ?_
                exact ⟨_, rfl, zf_new (by rw [HNn.out]; exact agn_len _ _) (World.rowIs.of_block (by rw [HNn.out]; exact HF.out.zf) (st5_other _ _ _ _ _ (by omega))) (by omega) (by omega), st5_below _ _ _ _ _ (by omega) HG.out.m.k.bel⟩
              · exfalso
                omega
          · have HH5 := Lib.hid h5
            clear h5
            obtain ⟨n, hn⟩ : ∃ n : Nat, x * y = n := ⟨(x * y).toNat, by have := Int.mul_nonneg hx0 hy0; omega⟩
            have hn4 : n ≤ 400 := by omega
            have hck : ck ⟨A.k, 2, x, y, List.replicate n 0⟩ = 0 := good_ck ⟨hA.kind, Sh.s2 x y hx0 hx4 hy0 hy4 (by omega), by simp [cn, hn], fun _ => zeros_all _⟩
            have HBl := Lib.hid (fun W hw => blank_ok hck W hw (by simp; exact hn) (by omega))
            have HNn : Hid ((x * y).toNat = n) := by unfold Hid; rw [hn]; rfl
            clear hn hck
            have HNi : Hid (x * y = (n : Int)) := by have := HNn.out; have := Int.mul_nonneg hx0 hy0; unfold Hid; omega
            clear h3
            go_enter Tryz.func125, Tryz.ntmps125
            go_wp2_with (first
              | (go_at_call 154; (with_reducible refine (HMn.out _ HK.out.rln).mono ?_); rintro e w1 ⟨rfl, hb⟩; have HK2 := Lib.hid (HK.out.next hb); clear HK x0 x1 x2 x3 x4; have HK := HK2; clear HK2; have x0 := HK.out.k.box.c0; have x1 := HK.out.k.box.c1; have x2 := HK.out.k.box.c2; have x3 := HK.out.k.box.c3; have x4 := HK.out.k.box.c4; clear hb)
              | (go_at_call 155; (with_reducible refine (HMx.out _ HK.out.rln).mono ?_); rintro e w1 ⟨rfl, hb⟩; have HK2 := Lib.hid (HK.out.next hb); clear HK x0 x1 x2 x3 x4; have HK := HK2; clear HK2; have x0 := HK.out.k.box.c0; have x1 := HK.out.k.box.c1; have x2 := HK.out.k.box.c2; have x3 := HK.out.k.box.c3; have x4 := HK.out.k.box.c4; clear hb))
            obtain ⟨bq, oq, heq, hnum⟩ := HK.out.num (by simp)
            cases heq
            have HNum := Lib.hid hnum
            clear hnum
            have HL0 : Hid (KgL w A (.slice p A.z.length cap) (.slice (some ⟨bu, ou, none⟩) 2 cu) [x, y] w1.heap.size 0 0 (w1.alloc (.cells #[.int .i64 0, .int .i64 0] 40))) := ⟨HK.out.next (bel1 w1 _), R2.new w1 0 0⟩
            have hgs : w.heap.size + 2 ≤ w1.heap.size := HK.out.k.sz
            have hq0 := HNum.out _ HL0.out.m.rl 0 (by simp)
            rw [Nat.add_zero, List.getElem_cons_zero] at hq0
            clear HK x0 x1 x2 x3 x4
            generalize w1.alloc (.cells #[.int .i64 0, .int .i64 0] 40) = W1 at HL0 hq0 ⊢
            have l0 := HL0.out.bx.c0; have l1 := HL0.out.bx.c1; have lf := HL0.out.bx.fr 0
            have HL1 := Lib.hid (HL0.out.put0 HW3.out hgs x)
            have hw1 : IntKind.i64.wrap 1 = 1 := by rw [IntKind.wrap_i64]; omega
            have hq1 := HNum.out _ HL1.out.m.rl 1 (by simp)
            rw [List.getElem_cons_succ, List.getElem_cons_zero] at hq1
            have lf1 := HL1.out.bx.fr 1; have l2 := HL1.out.bx.c1
            have HL2 := Lib.hid (HL1.out.put1 HW3.out hgs y)
            have hzb : ((A.z.length : Int) == 0) = false := by simpa using HH5.out
            have hz : 0 < A.z.length := by have := HH5.out; omega
            have v0 := HL2.out.bx.c0; have v1 := HL2.out.bx.c1; have xb0 := HL2.out.m.k.box.c0; have xb1 := HL2.out.m.k.box.c1; have xb2 := HL2.out.m.k.box.c2; have xb3 := HL2.out.m.k.box.c3; have xb4 := HL2.out.m.k.box.c4
            refine wp_loop_rounds 8 ?_
            rw [rounds_succ]
            go_wp2
            rw [rounds_succ]
            go_wp2
            rw [rounds_succ]
            go_wp2_with (go_at_call 110; (with_reducible refine (HBl.out _ HL2.out.m.k.lay).mono ?_); rintro e w2 ⟨g, rfl, hg1, hg2, hrow, hb⟩; have hgg : w.heap.size + 1 < g := (by have := HL2.out.m.k.sz; omega); have HM2 := Lib.hid ((HL2.out.m.next hb).next (bel1 w2 (.cells #[.int .i64 A.k, .int .i64 2, .int .i64 x, .int .i64 y, .slice (some ⟨g, 0, none⟩) n n] 43))); have HR2 := Lib.hid (hrow.alloc (.cells #[.int .i64 A.k, .int .i64 2, .int .i64 x, .int .i64 y, .slice (some ⟨g, 0, none⟩) n n] 43)); have HB2 := Lib.hid (R5.new w2 A.k 2 x y (.slice (some ⟨g, 0, none⟩) n n)); clear hb hrow hg1 v0 v1 xb0 xb1 xb2 xb3 xb4 l0 l1 lf hq0 hq1 lf1 l2; have b0 := HB2.out.c0; have b1 := HB2.out.c1; have b2 := HB2.out.c2; have b3 := HB2.out.c3; have b4 := HB2.out.c4; have x4 := HM2.out.k.box.c4)
            have HG0 : Hid (Kg w A (.slice p A.z.length cap) (.slice (some ⟨bu, ou, none⟩) 2 cu) [x, y] 2 x y n g w2.heap.size 0 (some ⟨g, 0, none⟩) (w2.alloc (.cells #[.int .i64 A.k, .int .i64 2, .int .i64 x, .int .i64 y, .slice (some ⟨g, 0, none⟩) n n] 43))) := ⟨HM2.out, HB2.out, HR2.out.congr fun i _ => by rw [agF_zero], fun _ => ⟨rfl, Nat.zero_mod _⟩⟩
            have hgb : w2.heap.size ≠ g := by omega
            clear HM2 HB2 HR2 b0 b1 b2 b3 b4 x4 HL2
            generalize w2.alloc (.cells #[.int .i64 A.k, .int .i64 2, .int .i64 x, .int .i64 y, .slice (some ⟨g, 0, none⟩) n n] 43) = W5 at HG0 ⊢
            go_loopg [13] n (fun gk q wr => ∃ (o : Nat) (qa : Option Addr), o + gk = n ∧ q = .slice qa gk gk ∧ Kg w A (.slice p A.z.length cap) (.slice (some ⟨bu, ou, none⟩) 2 cu) [x, y] 2 x y n g w2.heap.size o qa wr)
            case atStart => exact ⟨0, some ⟨g, 0, none⟩, by omega, rfl, HG0.out⟩
            case round =>
              obtain ⟨o, qa, hog, rfl, hk⟩ := hrel
              have HG := Lib.hid hk
              clear hk HG0
              by_cases h0 : gk = 0
              · subst h0
                have hz0 : ¬ ((0 : Int) < ((0 : Nat) : Int)) := by omega
                have HF : Hid (rowZ wr g n (fun i => (agn n A.z).getD i 0)) := HG.out.row.congr fun i hi => by unfold agF; rw [if_pos (by omega), agn_getD hi]
                have b0 := HG.out.bx.c0; have b1 := HG.out.bx.c1; have b2 := HG.out.bx.c2; have b3 := HG.out.bx.c3; have b4 := HG.out.bx.c4
                have y0 := HG.out.m.k.res.c0; have y1 := HG.out.m.k.res.c1; have y2 := HG.out.m.k.res.c2; have y3 := HG.out.m.k.res.c3; have y4 := HG.out.m.k.res.c4; have f0 := HG.out.m.k.res.fr 0; have f1 := HG.out.m.k.res.fr 1; have f2 := HG.out.m.k.res.fr 2; have f3 := HG.out.m.k.res.fr 3; have f4 := HG.out.m.k.res.fr 4; have HS := Lib.hid (HG.out.m.k.res.set A.k 2 x y (.slice (some ⟨g, 0, none⟩) n n)); have z0 := HS.out.c0; have z1 := HS.out.c1; have z2 := HS.out.c2; have z3 := HS.out.c3; have z4 := HS.out.c4
                go_wp2
                refine bodyPost_ret (v := .tuple #[A5 A.k 2 x y (.slice (some ⟨g, 0, none⟩) n n), .int .i64 0]) (by simp [results, Tryz.results125, go_sem, z0, z1, z2, z3, z4]) rfl ?_
                exact ⟨_, rfl, zf_new (by rw [HNn.out]; exact agn_len _ _) (World.rowIs.of_block (by rw [HNn.out]; exact HF.out.zf) (st5_other _ _ _ _ _ (by omega))) (by omega) (by omega), st5_below _ _ _ _ _ (by omega) HG.out.m.k.bel⟩
              · have hg0 : (0 : Int) < (gk : Int) := by omega
                have hon : o < n := by omega
                obtain ⟨rfl, hmod⟩ := HG.out.pos hon
                obtain ⟨c, hc⟩ : ∃ c, c = min A.z.length gk := ⟨_, rfl⟩
                have hc0 : 0 < c := by omega
                obtain ⟨w6, hcp, hrow, hbut⟩ := copy_run HG.out.row o gk gk HG.out.m.k.rd c hc (by omega)
                have HC := Lib.hid hc
                have HRow := Lib.hid hrow
                have HBut := Lib.hid hbut
                have hcg : c ≤ gk := by omega
                have x4 := HG.out.m.k.box.c4
                clear hrow hbut hc hmod h0
                by_cases hcn : c = gk
                · have HNx : Hid (Kg w A (.slice p A.z.length cap) (.slice (some ⟨bu, ou, none⟩) 2 cu) [x, y] 2 x y n g w2.heap.size (o + c) (some ⟨g, o, none⟩) w6) := HG.out.next hgg hgb hon (by rw [show n - o = gk by omega]; exact HC.out) (fun h => absurd h (by omega)) HBut.out (HG.out.m.k.lay.below HW3.out (HBut.out.below (by omega))) HRow.out
                  subst hcn
                  go_wp2
                  go_roundg 0
                  case measure => omega
                  case rel => exact ⟨o + c, _, by omega, rfl, HNx.out⟩
                · have HNx : Hid (Kg w A (.slice p A.z.length cap) (.slice (some ⟨bu, ou, none⟩) 2 cu) [x, y] 2 x y n g w2.heap.size (o + c) (some ⟨g, o + c, none⟩) w6) := HG.out.next hgg hgb hon (by rw [show n - o = gk by omega]; exact HC.out) (fun _ => rfl) HBut.out (HG.out.m.k.lay.below HW3.out (HBut.out.below (by omega))) HRow.out
                  have hcl : c < gk := by omega
                  have hcz : 0 < gk - c := by omega
                  have hci : (c : Int) ≤ (gk : Int) := by omega
                  clear hcn
                  go_wp2
                  go_roundg (gk - c)
                  case measure => omega
                  case rel => exact ⟨o + c, _, by omega, rfl, HNx.out⟩
end Go.Proofs.YtpbfbejckhbijaaGreatDoor
namespace Go.Proofs.YtpbfbejckhbijaaGreatDoor
open Go.RowKit

theorem one_list {z : List Int} (h : z.length = 1) : z = [z.getD 0 0] := by
  match z, h with
  | [x], _ => rfl
theorem two_list {z : List Int} (h : z.length = 2) : z = [z.getD 0 0, z.getD 1 0] := by
  match z, h with
  | [x, y], _ => rfl
theorem agn_one (n : Nat) (x : Int) : agn n [x] = List.replicate n x := by
  refine ext_getD (by rw [agn_len, List.length_replicate]) fun t ht => ?_
  rw [agn_len] at ht
  rw [agn_getD ht, List.getD_eq_getElem?_getD, List.getD_eq_getElem?_getD, List.getElem?_replicate]
  simp [ht, Nat.mod_one]
theorem fi_ok {N S : Ar} (h : twoE N S 1 S.k 0 0 0 0 = 0) : Good S ∧ 0 < S.z.length ∧ N.z = [fst1 N] ∧ fiE N S = (if fst1 N < 0 then 13 else if 400 < fst1 N then 15 else 0) ∧
    fiV N S = orNo (fiE N S) ⟨S.k, 1, fst1 N, 0, agn (fst1 N).toNat S.z⟩ := by
  obtain ⟨hN, hS, h3, h4, h5, h6, h7, h8⟩ := two_ok h
  have hs := scalar_one hS (by omega)
  have hn := scalar_one hN (by omega)
  refine ⟨hS, by omega, one_list hn, by unfold fiE; rw [if_pos h], ?_⟩
  unfold fiV
  by_cases he : fiE N S = 0
  · rw [orNo_yes he, orNo_yes he]
    unfold fiE at he
    rw [if_pos h] at he
    by_cases hx : fst1 N < 0
    · rw [if_pos hx] at he; cases he
    · unfold vecA
      rw [one_list hs, agn_one, List.length_replicate]
      have : ((fst1 N).toNat : Int) = fst1 N := by omega
      rw [this]; rfl
  · rw [orNo_no he, orNo_no he]
theorem gd_ok {L V : Ar} (h : twoE L V 1 V.k 1 1 1 1 = 0) (h2 : L.z.length = 2) : Good V ∧ L.z = [L.z.getD 0 0, L.z.getD 1 0] ∧
    gdE L V = (if L.z.getD 0 0 < 0 ∨ L.z.getD 1 0 < 0 then 13 else if 400 < L.z.getD 0 0 ∨ 400 < L.z.getD 1 0 ∨ 400 < L.z.getD 0 0 * L.z.getD 1 0 then 15 else if V.z.length = 0 ∧ 0 < L.z.getD 0 0 * L.z.getD 1 0 then 13 else 0) := by
  obtain ⟨hN, hS, h3, h4, h5, h6, h7, h8⟩ := two_ok h
  exact ⟨hS, two_list h2, by unfold gdE; rw [if_pos h, if_pos h2]⟩

set_option maxRecDepth 100000 in
set_option maxHeartbeats 8000000 in
theorem mfill_any (N V : Ar) (u v : Value) (w : World) (hw : Ru.Lay w) (hu : RdI w.heap.size w u N.z) (hv : RdI w.heap.size w v V.z) (hlN : N.z.length ≤ 1000000) (hlV : V.z.length ≤ 1000000) :
    Calls Tryz.prog 62 #[A5 N.k N.r N.a N.b u, A5 V.k V.r V.a V.b v] w (RetE (fiV N V) (fiE N V) w) := by
  have HFa : Hid (∀ W g, W.heap.size = g → Ru.Lay W → RdI W.heap.size W u N.z → RdI W.heap.size W v V.z → Calls Tryz.prog 105 #[.slice (some ⟨g, 0, none⟩) 2 2] (W.alloc (.cells #[.int .i64 N.k, .int .i64 N.r, .int .i64 N.a, .int .i64 N.b, u, .int .i64 1, .int .i64 0, .int .i64 0, .int .i64 V.k, .int .i64 V.r, .int .i64 V.a, .int .i64 V.b, v, .int .i64 V.k, .int .i64 0, .int .i64 0] 102)) fun e w' => e = .returned (.int .i64 (twoE N V 1 V.k 0 0 0 0)) ∧ Below W.heap.size W w') := fun W g hg h1 h2 h3 => fault2_any N V u v 1 0 0 V.k 0 0 W g hg h1 h2 h3 hlN hlV
  have HK := Lib.hid (MK2.new (A := N) (B := V) hw hu hv)
  have x0 := HK.out.c.boxA.c0; have x1 := HK.out.c.boxA.c1; have x2 := HK.out.c.boxA.c2; have x3 := HK.out.c.boxA.c3; have x4 := HK.out.c.boxA.c4; have y0 := HK.out.c.boxB.c0; have y1 := HK.out.c.boxB.c1; have y2 := HK.out.c.boxB.c2; have y3 := HK.out.c.boxB.c3; have y4 := HK.out.c.boxB.c4
  obtain ⟨pu, cu, rfl, _, _, _⟩ := hu
  obtain ⟨p, cap, rfl, _, _, _⟩ := hv
  clear hw
  by_cases h1 : twoE N V 1 V.k 0 0 0 0 = 0
  · obtain ⟨hV, hz, hN, hE, hFV⟩ := fi_ok h1
    rw [hFV]
    have HAg : Hid (∀ W, Ru.Lay W → RdI W.heap.size W (.slice p V.z.length cap) V.z → RdI W.heap.size W (.slice pu N.z.length cu) N.z → Calls Tryz.prog 125 #[A5 V.k V.r V.a V.b (.slice p V.z.length cap), .int .i64 1, .slice pu N.z.length cu] W (RetE (orNo (fiE N V) ⟨V.k, 1, fst1 N, 0, agn (fst1 N).toNat V.z⟩) (fiE N V) W)) := fun W h1 h2 h3 => by
      have h3' : RdI W.heap.size W (.slice pu N.z.length cu) [fst1 N] := by rw [← hN]; exact h3
      have := again1_any V (.slice p V.z.length cap) (.slice pu N.z.length cu) (fst1 N) W h1 hV hz h2 h3'
      rwa [← hE] at this
    rw [h1] at HFa
    clear h1 hFV hE hN hV hz
    generalize orNo (fiE N V) ⟨V.k, 1, fst1 N, 0, agn (fst1 N).toNat V.z⟩ = M at HAg ⊢
    generalize fiE N V = E at HAg ⊢
    obtain ⟨a1, a2, a3, a4, a5⟩ := M
    go_enter Tryz.func62, Tryz.ntmps62
    go_wp2_with (first
      | (go_at_call 105; (with_reducible refine (HFa.out _ _ (by first | rfl | simp) HK.out.c.lay HK.out.c.rdnA HK.out.c.rdnB).mono ?_); rintro e w1 ⟨rfl, hb⟩; have HK2 := Lib.hid (HK.out.next hb); clear HK x0 x1 x2 x3 x4 y0 y1 y2 y3 y4; have HK := HK2; clear HK2; have x0 := HK.out.c.boxA.c0; have x1 := HK.out.c.boxA.c1; have x2 := HK.out.c.boxA.c2; have x3 := HK.out.c.boxA.c3; have x4 := HK.out.c.boxA.c4; have y0 := HK.out.c.boxB.c0; have y1 := HK.out.c.boxB.c1; have y2 := HK.out.c.boxB.c2; have y3 := HK.out.c.boxB.c3; have y4 := HK.out.c.boxB.c4; clear hb)
      | (go_at_call 125; (with_reducible refine (HAg.out _ HK.out.c.lay HK.out.c.rdnB HK.out.c.rdnA).mono ?_); rintro e w2 ⟨u2, rfl, hu, hb⟩; obtain ⟨q, qc, hq, _, _⟩ := hu.form; have hq2 : u2 = .slice q a5.length qc := hq; subst hq2; clear hq; have HU := Lib.hid hu; have hlt := HK.out.sz; have HK2 := Lib.hid (HK.out.next hb); clear HK x0 x1 x2 x3 x4 y0 y1 y2 y3 y4; have HK := HK2; clear HK2; have x0 := HK.out.c.boxA.c0; have x1 := HK.out.c.boxA.c1; have x2 := HK.out.c.boxA.c2; have x3 := HK.out.c.boxA.c3; have x4 := HK.out.c.boxA.c4; have y0 := HK.out.c.boxB.c0; have y1 := HK.out.c.boxB.c1; have y2 := HK.out.c.boxB.c2; have y3 := HK.out.c.boxB.c3; have y4 := HK.out.c.boxB.c4; clear hu hb; have y0 := HK.out.res.c0; have y1 := HK.out.res.c1; have y2 := HK.out.res.c2; have y3 := HK.out.res.c3; have y4 := HK.out.res.c4; have f0 := HK.out.res.fr 0; have f1 := HK.out.res.fr 1; have f2 := HK.out.res.fr 2; have f3 := HK.out.res.fr 3; have f4 := HK.out.res.fr 4; have HS := Lib.hid (HK.out.res.set a1 a2 a3 a4 (.slice q a5.length qc)); have z0 := HS.out.c0; have z1 := HS.out.c1; have z2 := HS.out.c2; have z3 := HS.out.c3; have z4 := HS.out.c4))
    refine bodyPost_ret (v := .tuple #[A5 a1 a2 a3 a4 (.slice q a5.length qc), .int .i64 E]) (by simp [results, Tryz.results62, go_sem, z0, z1, z2, z3, z4]) rfl ?_
    exact ⟨_, rfl, (HU.out.st5 (by omega) _ _ _ _ _).mono (by omega), st5_below _ _ _ _ _ (by omega) HK.out.c.bel⟩
  · have hE : fiE N V = twoE N V 1 V.k 0 0 0 0 := if_neg h1
    rw [show fiV N V = Ar.no from orNo_no (by rw [hE]; exact h1), hE]
    clear hE
    generalize twoE N V 1 V.k 0 0 0 0 = E at h1 HFa ⊢
    have k1 : (E != 0) = true := by simpa using h1
    clear h1
    go_enter Tryz.func62, Tryz.ntmps62
    go_wp2_with (go_at_call 105; (with_reducible refine (HFa.out _ _ (by first | rfl | simp) HK.out.c.lay HK.out.c.rdnA HK.out.c.rdnB).mono ?_); rintro e w1 ⟨rfl, hb⟩; have HK2 := Lib.hid (HK.out.next hb); clear HK x0 x1 x2 x3 x4 y0 y1 y2 y3 y4; have HK := HK2; clear HK2; have x0 := HK.out.c.boxA.c0; have x1 := HK.out.c.boxA.c1; have x2 := HK.out.c.boxA.c2; have x3 := HK.out.c.boxA.c3; have x4 := HK.out.c.boxA.c4; have y0 := HK.out.c.boxB.c0; have y1 := HK.out.c.boxB.c1; have y2 := HK.out.c.boxB.c2; have y3 := HK.out.c.boxB.c3; have y4 := HK.out.c.boxB.c4; clear hb; have y0 := HK.out.res.c0; have y1 := HK.out.res.c1; have y2 := HK.out.res.c2; have y3 := HK.out.res.c3; have y4 := HK.out.res.c4; have f0 := HK.out.res.fr 0; have f1 := HK.out.res.fr 1; have f2 := HK.out.res.fr 2; have f3 := HK.out.res.fr 3; have f4 := HK.out.res.fr 4; have HS := Lib.hid (HK.out.res.set 0 0 0 0 (.slice none 0 0)); have z0 := HS.out.c0; have z1 := HS.out.c1; have z2 := HS.out.c2; have z3 := HS.out.c3; have z4 := HS.out.c4)
    exact bodyPost_ret (v := .tuple #[A5 0 0 0 0 (.slice none 0 0), .int .i64 E]) (by simp [results, Tryz.results62, go_sem, z0, z1, z2, z3, z4]) rfl (retE_no _ (st5_below _ _ _ _ _ (by omega) HK.out.c.bel))

set_option maxRecDepth 100000 in
set_option maxHeartbeats 8000000 in
theorem mgrid_any (N V : Ar) (u v : Value) (w : World) (hw : Ru.Lay w) (hu : RdI w.heap.size w u N.z) (hv : RdI w.heap.size w v V.z) (hlN : N.z.length ≤ 1000000) (hlV : V.z.length ≤ 1000000) :
    Calls Tryz.prog 63 #[A5 N.k N.r N.a N.b u, A5 V.k V.r V.a V.b v] w (RetE (gdV N V) (gdE N V) w) := by
  have HFa : Hid (∀ W g, W.heap.size = g → Ru.Lay W → RdI W.heap.size W u N.z → RdI W.heap.size W v V.z → Calls Tryz.prog 105 #[.slice (some ⟨g, 0, none⟩) 2 2] (W.alloc (.cells #[.int .i64 N.k, .int .i64 N.r, .int .i64 N.a, .int .i64 N.b, u, .int .i64 1, .int .i64 1, .int .i64 1, .int .i64 V.k, .int .i64 V.r, .int .i64 V.a, .int .i64 V.b, v, .int .i64 V.k, .int .i64 1, .int .i64 1] 102)) fun e w' => e = .returned (.int .i64 (twoE N V 1 V.k 1 1 1 1)) ∧ Below W.heap.size W w') := fun W g hg h1 h2 h3 => fault2_any N V u v 1 1 1 V.k 1 1 W g hg h1 h2 h3 hlN hlV
  have HK := Lib.hid (MK2.new (A := N) (B := V) hw hu hv)
  have x0 := HK.out.c.boxA.c0; have x1 := HK.out.c.boxA.c1; have x2 := HK.out.c.boxA.c2; have x3 := HK.out.c.boxA.c3; have x4 := HK.out.c.boxA.c4; have y0 := HK.out.c.boxB.c0; have y1 := HK.out.c.boxB.c1; have y2 := HK.out.c.boxB.c2; have y3 := HK.out.c.boxB.c3; have y4 := HK.out.c.boxB.c4
  obtain ⟨pu, cu, rfl, _, _, _⟩ := hu
  obtain ⟨p, cap, rfl, _, _, _⟩ := hv
  clear hw
  by_cases h1 : twoE N V 1 V.k 1 1 1 1 = 0
  · by_cases h2 : N.z.length = 2
    · obtain ⟨hV, hN, hE⟩ := gd_ok h1 h2
      have HAg : Hid (∀ W, Ru.Lay W → RdI W.heap.size W (.slice p V.z.length cap) V.z → RdI W.heap.size W (.slice pu N.z.length cu) N.z → Calls Tryz.prog 125 #[A5 V.k V.r V.a V.b (.slice p V.z.length cap), .int .i64 2, .slice pu N.z.length cu] W (RetE (gdV N V) (gdE N V) W)) := fun W h1 hh h3 => by
        have h3' : RdI W.heap.size W (.slice pu N.z.length cu) [N.z.getD 0 0, N.z.getD 1 0] := by rw [← hN]; exact h3
        have := again2_any V (.slice p V.z.length cap) (.slice pu N.z.length cu) (N.z.getD 0 0) (N.z.getD 1 0) W h1 hV hh h3'
        rw [← hE] at this
        exact this
      rw [h1] at HFa
      have k2 : ((N.z.length : Int) != 2) = false := by simpa using (show (N.z.length : Int) = 2 by omega)
      clear h1 hE hN hV h2
      generalize gdV N V = M at HAg ⊢
      generalize gdE N V = E at HAg ⊢
      obtain ⟨a1, a2, a3, a4, a5⟩ := M
      go_enter Tryz.func63, Tryz.ntmps63
      have HK2' := Lib.hid k2
      clear k2
      go_wp2_with (first
        | (go_at_call 105; (with_reducible refine (HFa.out _ _ (by first | rfl | simp) HK.out.c.lay HK.out.c.rdnA HK.out.c.rdnB).mono ?_); rintro e w1 ⟨rfl, hb⟩; have HK2 := Lib.hid (HK.out.next hb); clear HK x0 x1 x2 x3 x4 y0 y1 y2 y3 y4; have HK := HK2; clear HK2; have x0 := HK.out.c.boxA.c0; have x1 := HK.out.c.boxA.c1; have x2 := HK.out.c.boxA.c2; have x3 := HK.out.c.boxA.c3; have x4 := HK.out.c.boxA.c4; have y0 := HK.out.c.boxB.c0; have y1 := HK.out.c.boxB.c1; have y2 := HK.out.c.boxB.c2; have y3 := HK.out.c.boxB.c3; have y4 := HK.out.c.boxB.c4; clear hb; have k2 := HK2'.out)
        | (go_at_call 125; (with_reducible refine (HAg.out _ HK.out.c.lay HK.out.c.rdnB HK.out.c.rdnA).mono ?_); rintro e w2 ⟨u2, rfl, hu, hb⟩; obtain ⟨q, qc, hq, _, _⟩ := hu.form; have hq2 : u2 = .slice q a5.length qc := hq; subst hq2; clear hq; have HU := Lib.hid hu; have hlt := HK.out.sz; have HK2 := Lib.hid (HK.out.next hb); clear HK x0 x1 x2 x3 x4 y0 y1 y2 y3 y4; have HK := HK2; clear HK2; have x0 := HK.out.c.boxA.c0; have x1 := HK.out.c.boxA.c1; have x2 := HK.out.c.boxA.c2; have x3 := HK.out.c.boxA.c3; have x4 := HK.out.c.boxA.c4; have y0 := HK.out.c.boxB.c0; have y1 := HK.out.c.boxB.c1; have y2 := HK.out.c.boxB.c2; have y3 := HK.out.c.boxB.c3; have y4 := HK.out.c.boxB.c4; clear hu hb; have y0 := HK.out.res.c0; have y1 := HK.out.res.c1; have y2 := HK.out.res.c2; have y3 := HK.out.res.c3; have y4 := HK.out.res.c4; have f0 := HK.out.res.fr 0; have f1 := HK.out.res.fr 1; have f2 := HK.out.res.fr 2; have f3 := HK.out.res.fr 3; have f4 := HK.out.res.fr 4; have HS := Lib.hid (HK.out.res.set a1 a2 a3 a4 (.slice q a5.length qc)); have z0 := HS.out.c0; have z1 := HS.out.c1; have z2 := HS.out.c2; have z3 := HS.out.c3; have z4 := HS.out.c4))
      refine bodyPost_ret (v := .tuple #[A5 a1 a2 a3 a4 (.slice q a5.length qc), .int .i64 E]) (by simp [results, Tryz.results63, go_sem, z0, z1, z2, z3, z4]) rfl ?_
      exact ⟨_, rfl, (HU.out.st5 (by omega) _ _ _ _ _).mono (by omega), st5_below _ _ _ _ _ (by omega) HK.out.c.bel⟩
    · have hE : gdE N V = 11 := by unfold gdE; rw [if_pos h1, if_neg h2]
      rw [show gdV N V = Ar.no from orNo_no (by rw [hE]; decide), hE]
      rw [h1] at HFa
      have k2 : ((N.z.length : Int) != 2) = true := by simpa using (show ¬ (N.z.length : Int) = 2 by omega)
      clear h1 hE h2
      go_enter Tryz.func63, Tryz.ntmps63
      go_wp2_with (go_at_call 105; (with_reducible refine (HFa.out _ _ (by first | rfl | simp) HK.out.c.lay HK.out.c.rdnA HK.out.c.rdnB).mono ?_); rintro e w1 ⟨rfl, hb⟩; have HK2 := Lib.hid (HK.out.next hb); clear HK x0 x1 x2 x3 x4 y0 y1 y2 y3 y4; have HK := HK2; clear HK2; have x0 := HK.out.c.boxA.c0; have x1 := HK.out.c.boxA.c1; have x2 := HK.out.c.boxA.c2; have x3 := HK.out.c.boxA.c3; have x4 := HK.out.c.boxA.c4; have y0 := HK.out.c.boxB.c0; have y1 := HK.out.c.boxB.c1; have y2 := HK.out.c.boxB.c2; have y3 := HK.out.c.boxB.c3; have y4 := HK.out.c.boxB.c4; clear hb; have y0 := HK.out.res.c0; have y1 := HK.out.res.c1; have y2 := HK.out.res.c2; have y3 := HK.out.res.c3; have y4 := HK.out.res.c4; have f0 := HK.out.res.fr 0; have f1 := HK.out.res.fr 1; have f2 := HK.out.res.fr 2; have f3 := HK.out.res.fr 3; have f4 := HK.out.res.fr 4; have HS := Lib.hid (HK.out.res.set 0 0 0 0 (.slice none 0 0)); have z0 := HS.out.c0; have z1 := HS.out.c1; have z2 := HS.out.c2; have z3 := HS.out.c3; have z4 := HS.out.c4)
      exact bodyPost_ret (v := .tuple #[A5 0 0 0 0 (.slice none 0 0), .int .i64 11]) (by simp [results, Tryz.results63, go_sem, z0, z1, z2, z3, z4]) rfl (retE_no _ (st5_below _ _ _ _ _ (by omega) HK.out.c.bel))
  · have hE : gdE N V = twoE N V 1 V.k 1 1 1 1 := if_neg h1
    rw [show gdV N V = Ar.no from orNo_no (by rw [hE]; exact h1), hE]
    clear hE
    generalize twoE N V 1 V.k 1 1 1 1 = E at h1 HFa ⊢
    have k1 : (E != 0) = true := by simpa using h1
    clear h1
    go_enter Tryz.func63, Tryz.ntmps63
    go_wp2_with (go_at_call 105; (with_reducible refine (HFa.out _ _ (by first | rfl | simp) HK.out.c.lay HK.out.c.rdnA HK.out.c.rdnB).mono ?_); rintro e w1 ⟨rfl, hb⟩; have HK2 := Lib.hid (HK.out.next hb); clear HK x0 x1 x2 x3 x4 y0 y1 y2 y3 y4; have HK := HK2; clear HK2; have x0 := HK.out.c.boxA.c0; have x1 := HK.out.c.boxA.c1; have x2 := HK.out.c.boxA.c2; have x3 := HK.out.c.boxA.c3; have x4 := HK.out.c.boxA.c4; have y0 := HK.out.c.boxB.c0; have y1 := HK.out.c.boxB.c1; have y2 := HK.out.c.boxB.c2; have y3 := HK.out.c.boxB.c3; have y4 := HK.out.c.boxB.c4; clear hb; have y0 := HK.out.res.c0; have y1 := HK.out.res.c1; have y2 := HK.out.res.c2; have y3 := HK.out.res.c3; have y4 := HK.out.res.c4; have f0 := HK.out.res.fr 0; have f1 := HK.out.res.fr 1; have f2 := HK.out.res.fr 2; have f3 := HK.out.res.fr 3; have f4 := HK.out.res.fr 4; have HS := Lib.hid (HK.out.res.set 0 0 0 0 (.slice none 0 0)); have z0 := HS.out.c0; have z1 := HS.out.c1; have z2 := HS.out.c2; have z3 := HS.out.c3; have z4 := HS.out.c4)
    exact bodyPost_ret (v := .tuple #[A5 0 0 0 0 (.slice none 0 0), .int .i64 E]) (by simp [results, Tryz.results63, go_sem, z0, z1, z2, z3, z4]) rfl (retE_no _ (st5_below _ _ _ _ _ (by omega) HK.out.c.bel))
end Go.Proofs.YtpbfbejckhbijaaGreatDoor
namespace Go.Proofs.YtpbfbejckhbijaaGreatDoor
open Go.RowKit

theorem rwI_getD {A : Ar} (h : Good A) {i k : Nat} (hi : i < rwN A) (hk : k < rwM A) : (rwI A i).getD k 0 = A.z.getD (i * rwM A + k) 0 := by
  obtain ⟨_, _, e3, _, _⟩ := rw_good h
  have hl := rwI_len h hi
  have hlt := lt_at (n := rwN A) hi hk
  rw [getD_lt (by omega), getD_lt (by omega), rwI_get (by omega)]
/-- A row of an argument can be read. -/
theorem rp_rd {A : Ar} (h : Good A) {B : Nat} {w : World} {p : Option Addr} {n cap : Nat} (hv : RdI B w (.slice p n cap) A.z) {i : Nat} (hi : i < rwN A) : RdI B w (rp p (rwM A) i) (rwI A i) := by
  obtain ⟨_, _, e3, _, e5⟩ := rw_good h
  have hl := rwI_len h hi
  obtain ⟨p', cap', e, h1, h2, h3⟩ := hv
  cases e
  by_cases hm : rwM A = 0
  · have : rwI A i = [] := List.length_eq_zero_iff.1 (by omega)
    rw [this, hm]
    cases p with
    | none => exact rdI_none (by omega)
    | some ad => exact rdI_none (by omega)
  · have hz : A.z ≠ [] := by
      intro e
      have := Nat.mul_pos (show 0 < rwN A by omega) (show 0 < rwM A by omega)
      rw [e3, e] at this
      simp at this
    obtain ⟨b, off, rfl, hb, hc⟩ := h3 hz
    have hlt := lt_at (n := rwN A) hi (show rwM A - 1 < rwM A by omega)
    refine ⟨some ⟨b, off + i * rwM A, none⟩, rwM A, by rw [hl]; rfl, by omega, by omega, fun _ => ⟨b, off + i * rwM A, rfl, hb, fun j hj => ?_⟩⟩
    rw [Nat.add_assoc, hc _ (by omega), rwI_get hj]
/-- The cells of Cat, of which the first rows have been written. -/
def ctF (A B : Ar) (j x : Nat) : Int := if x < j * (rwM A + rwM B) then (ctZ A B).getD x 0 else 0
theorem ctF_zero (A B : Ar) (x : Nat) : ctF A B 0 x = 0 := by unfold ctF; rw [Nat.zero_mul, if_neg (by omega)]
theorem ctF_next {A B : Ar} (hA : Good A) (hB : Good B) {j : Nat} (hj : j < rwN A) (hj2 : j < rwN B) (x : Nat) :
    (if j * (rwM A + rwM B) + rwM A ≤ x ∧ x < j * (rwM A + rwM B) + rwM A + rwM B then (rwI B j).getD (x - (j * (rwM A + rwM B) + rwM A)) 0 else
      if j * (rwM A + rwM B) ≤ x ∧ x < j * (rwM A + rwM B) + rwM A then (rwI A j).getD (x - j * (rwM A + rwM B)) 0 else ctF A B j x) = ctF A B (j + 1) x := by
  have e : (j + 1) * (rwM A + rwM B) = j * (rwM A + rwM B) + (rwM A + rwM B) := by rw [Nat.add_mul, Nat.one_mul]
  unfold ctF
  rw [e]
  generalize hd : j * (rwM A + rwM B) = d
  by_cases h1 : d + rwM A ≤ x ∧ x < d + rwM A + rwM B
  · rw [if_pos h1, if_pos (by omega)]
    obtain ⟨k, rfl⟩ : ∃ k, x = d + (rwM A + k) := ⟨x - d - rwM A, by omega⟩
    rw [show d + (rwM A + k) - (d + rwM A) = k by omega, rwI_getD hB hj2 (by omega), ← hd]
    unfold ctZ
    rw [gl_at hj (by omega), if_neg (by omega), show rwM A + k - rwM A = k by omega]
  · rw [if_neg h1]
    by_cases h2 : d ≤ x ∧ x < d + rwM A
    · rw [if_pos h2, if_pos (by omega)]
      obtain ⟨k, rfl⟩ : ∃ k, x = d + k := ⟨x - d, by omega⟩
      rw [show d + k - d = k by omega, rwI_getD hA hj (by omega), ← hd]
      unfold ctZ
      rw [gl_at hj (by omega), if_pos (by omega)]
    · rw [if_neg h2]
      by_cases h3 : x < d
      · rw [if_pos h3, if_pos (by omega)]
      · rw [if_neg h3, if_neg (by omega)]
/-- The lengths of what Cat makes. -/
def ctA (A B : Ar) : Int := if A.r = 1 then A.a + B.a else A.a
def ctB (A B : Ar) : Int := if A.r = 1 then A.b else A.b + B.b
structure CatOk (A B : Ar) : Prop where
  gA : Good A
  gB : Good B
  kind : B.k = A.k
  rank : A.r = 1 ∨ A.r = 2
  same : B.r = A.r
theorem ct_ok {A B : Ar} (h : twoE A B A.k A.k 1 2 A.r A.r = 0) : CatOk A B := by
  obtain ⟨h1, h2, _, h4, h5, h6, h7, h8⟩ := two_ok h
  exact ⟨h1, h2, h4, by omega, by omega⟩
theorem ckS_vec {n : Int} (h : 0 ≤ n) : ckS 1 n 0 = if 400 < n then 15 else 0 := by
  have e : cn 1 n 0 = n := by simp [cn]
  unfold ckS
  rw [e, if_neg (by omega), if_neg (by omega)]
  by_cases h4 : 400 < n
  · rw [if_pos (by omega), if_pos h4]
  · rw [if_neg (by omega), if_neg h4]
theorem ckS_mat {a b : Int} (h : 0 ≤ a) (h2 : a ≤ 400) (h3 : 0 ≤ b) : ckS 2 a b = if 400 < b ∨ 400 < a * b then 15 else 0 := by
  have e : cn 2 a b = a * b := by simp [cn]
  unfold ckS
  rw [e, if_neg (by omega), if_neg (by omega)]
  by_cases h4 : 400 < b ∨ 400 < a * b
  · rw [if_pos (by omega), if_pos h4]
  · rw [if_neg (by omega), if_neg h4]
/-- What Cat returns where both have as many rows. -/
theorem ct_rows {A B : Ar} (h0 : twoE A B A.k A.k 1 2 A.r A.r = 0) : (rwN A ≠ rwN B → ctE A B = 11) ∧
    (rwN A = rwN B → ∃ n : Nat, n = rwN A * (rwM A + rwM B) ∧ n ≤ 1000000 ∧ (if A.r = 2 then ctA A B * ctB A B else ctA A B) = (n : Int) ∧ ctE A B = ck ⟨A.k, A.r, ctA A B, ctB A B, List.replicate n 0⟩ ∧
      (ctE A B = 0 → ctV A B = ⟨A.k, A.r, ctA A B, ctB A B, ctZ A B⟩ ∧ n ≤ 400)) := by
  have hc := ct_ok h0
  obtain ⟨gA, gB, hk, hr, hs⟩ := hc
  have hE : ctE A B = (if A.r = 2 ∧ A.a ≠ B.a then 11 else if 400 < A.z.length + B.z.length ∨ 400 < A.b + B.b then 15 else 0) := if_pos h0
  rcases hr with hr | hr
  · obtain ⟨a1, a2, a3, a4⟩ := rw_vec gA hr
    obtain ⟨b1, b2, b3, b4⟩ := rw_vec gB (hs.trans hr)
    rw [if_neg (by omega)] at hE
    refine ⟨fun h => absurd (a1.trans b1.symm) h, fun _ => ⟨_, rfl, ?_, ?_, ?_, fun he => ?_⟩⟩
    · rw [a1, a2, b2, Nat.one_mul]; have := gA.len4; have := gB.len4; omega
    · rw [if_neg (by omega), a1, a2, b2]; unfold ctA; rw [if_pos hr, a3, b3]; omega
    · rw [hE, ck_zeros gA.kind (fun _ => by rw [a1, a2, b2]; unfold ctA ctB cn; rw [if_pos hr, if_neg (by omega), if_pos hr, a3, b3]; omega)]
      unfold ctA ctB
      rw [if_pos hr, if_pos hr, hr, a4, ckS_vec (by omega), a3, b3, b4]
      by_cases h : 400 < A.z.length + B.z.length
      · rw [if_pos (.inl h), if_pos (by omega)]
      · rw [if_neg (by omega), if_neg (by omega)]
    · have hl : (ctZ A B).length = A.z.length + B.z.length := by rw [ctZ, gl_len, a1, a2, b2, Nat.one_mul]
      refine ⟨?_, ?_⟩
      · unfold ctV
        rw [orNo_yes he, if_neg (by omega)]
        unfold vecA ctA ctB
        rw [if_pos hr, if_pos hr, hr, hl, a3, b3, a4]
        congr 1
      · rw [a1, a2, b2, Nat.one_mul]
        rw [hE] at he
        by_cases h : 400 < A.z.length + B.z.length ∨ 400 < A.b + B.b
        · rw [if_pos h] at he; cases he
        · omega
  · obtain ⟨a1, a2, a3, a4, a5⟩ := rw_mat gA hr
    obtain ⟨b1, b2, b3, b4, b5⟩ := rw_mat gB (hs.trans hr)
    refine ⟨fun h => by rw [hE, if_pos ⟨hr, by omega⟩], fun h => ?_⟩
    rw [if_neg (by omega)] at hE
    have hp : rwN A * (rwM A + rwM B) = A.z.length + B.z.length := by rw [Nat.mul_add, a3, b3, h]
    refine ⟨_, rfl, ?_, ?_, ?_, fun he => ?_⟩
    · rw [hp]; have := gA.len4; have := gB.len4; omega
    · rw [if_pos hr]; unfold ctA ctB; rw [if_neg (by omega), if_neg (by omega), a1, a2, b2, Int.natCast_mul, Int.natCast_add]
    · have hprod : A.a * (A.b + B.b) = ((A.z.length + B.z.length : Nat) : Int) := by rw [← hp, a1, a2, b2, Int.natCast_mul, Int.natCast_add]
      rw [hE, ck_zeros gA.kind (fun _ => by rw [hp]; unfold ctA ctB cn; rw [if_neg (by omega), if_neg (by omega), if_neg (by omega), if_neg (by omega), hprod])]
      have c1 : ctA A B = A.a := if_neg (by omega)
      have c2 : ctB A B = A.b + B.b := if_neg (by omega)
      rw [c1, c2, hr, ckS_mat (by omega) (by omega) (by omega), hprod]
      by_cases hb : 400 < A.z.length + B.z.length ∨ 400 < A.b + B.b
      · rw [if_pos hb, if_pos (by omega)]
      · rw [if_neg hb, if_neg (by omega)]
    · refine ⟨?_, ?_⟩
      · unfold ctV
        rw [orNo_yes he, if_pos hr]
        unfold ctA ctB
        rw [if_neg (by omega), if_neg (by omega), hr]
      · rw [hp]
        rw [hE] at he
        by_cases hb : 400 < A.z.length + B.z.length ∨ 400 < A.b + B.b
        · rw [if_pos hb] at he; cases he
        · omega
/-- rows of what Cat makes. -/
theorem ct_mrows {A B : Ar} (hc : CatOk A B) {n : Nat} (hn : n = rwN A * (rwM A + rwM B)) (h4 : n ≤ 400) (hm : rwM A + rwM B ≤ 400) (g : Nat) (W : World) :
    Calls Tryz.prog 108 #[A5 A.k A.r (ctA A B) (ctB A B) (.slice (some ⟨g, 0, none⟩) n n)] W fun e w' => ∃ h, e = .returned (.slice (some ⟨h, 0, none⟩) (rwN A) (rwN A)) ∧ W.heap.size ≤ h ∧ w'.rowIs h 41 (rwN A) (rp (some ⟨g, 0, none⟩) (rwM A + rwM B)) ∧ Below W.heap.size W w' := by
  rcases hc.rank with hr | hr
  · obtain ⟨a1, a2, a3, a4⟩ := rw_vec hc.gA hr
    obtain ⟨b1, b2, b3, b4⟩ := rw_vec hc.gB (hc.same.trans hr)
    have e : ctA A B = (n : Int) := by unfold ctA; rw [if_pos hr, a3, b3, hn, a1, a2, b2]; omega
    rw [e, hr, a1]
    have e2 : rwM A + rwM B = n := by rw [hn, a1]; omega
    rw [e2]
    exact mrows1_any A.k n _ _ n W (by omega) (Nat.le_refl _) (by omega) (fun _ => ⟨g, 0, rfl⟩) (fun e => by cases e)
  · obtain ⟨a1, a2, a3, a4, a5⟩ := rw_mat hc.gA hr
    obtain ⟨b1, b2, b3, b4, b5⟩ := rw_mat hc.gB (hc.same.trans hr)
    have e : ctA A B = (rwN A : Int) := by unfold ctA; rw [if_neg (by omega), a1]
    have e2 : ctB A B = ((rwM A + rwM B : Nat) : Int) := by unfold ctB; rw [if_neg (by omega), a2, b2]; omega
    rw [e, e2, hr]
    exact mrows2_any A.k (rwN A) (rwM A + rwM B) n _ n W hn.symm a4 hm (Nat.le_refl _) (by omega) (fun _ => ⟨g, 0, rfl⟩) (fun e => by cases e)
/-- Rows are not too long, if there is no error. -/
theorem ct_wide {A B : Ar} (h0 : twoE A B A.k A.k 1 2 A.r A.r = 0) (he : ctE A B = 0) : rwM A + rwM B ≤ 400 := by
  have hc := ct_ok h0
  obtain ⟨gA, gB, hk, hr, hs⟩ := hc
  have hE : ctE A B = (if A.r = 2 ∧ A.a ≠ B.a then 11 else if 400 < A.z.length + B.z.length ∨ 400 < A.b + B.b then 15 else 0) := if_pos h0
  rw [hE] at he
  have h1 : ¬ (A.r = 2 ∧ A.a ≠ B.a) := fun h => by rw [if_pos h] at he; cases he
  rw [if_neg h1] at he
  have h2 : ¬ (400 < A.z.length + B.z.length ∨ 400 < A.b + B.b) := fun h => by rw [if_pos h] at he; cases he
  rcases hr with hr | hr
  · obtain ⟨a1, a2, a3, a4⟩ := rw_vec gA hr
    obtain ⟨b1, b2, b3, b4⟩ := rw_vec gB (hs.trans hr)
    omega
  · obtain ⟨a1, a2, a3, a4, a5⟩ := rw_mat gA hr
    obtain ⟨b1, b2, b3, b4, b5⟩ := rw_mat gB (hs.trans hr)
    omega
theorem ctZ_len (A B : Ar) : (ctZ A B).length = rwN A * (rwM A + rwM B) := by rw [ctZ, gl_len]
end Go.Proofs.YtpbfbejckhbijaaGreatDoor
namespace Go.Proofs.YtpbfbejckhbijaaGreatDoor
open Go.RowKit

theorem MK2.cells {w W : World} {A B : Ar} {v u : Value} (h : MK2 w A v B u W) : MK2 w A v B u W ∧ W.cell? ⟨w.heap.size, 0, none⟩ = some (.int .i64 A.k) ∧ W.cell? ⟨w.heap.size, 1, none⟩ = some (.int .i64 A.r) ∧ W.cell? ⟨w.heap.size, 2, none⟩ = some (.int .i64 A.a) ∧ W.cell? ⟨w.heap.size, 3, none⟩ = some (.int .i64 A.b) ∧ W.cell? ⟨w.heap.size, 4, none⟩ = some v ∧
    W.cell? ⟨w.heap.size + 1, 0, none⟩ = some (.int .i64 B.k) ∧ W.cell? ⟨w.heap.size + 1, 1, none⟩ = some (.int .i64 B.r) ∧ W.cell? ⟨w.heap.size + 1, 2, none⟩ = some (.int .i64 B.a) ∧ W.cell? ⟨w.heap.size + 1, 3, none⟩ = some (.int .i64 B.b) ∧ W.cell? ⟨w.heap.size + 1, 4, none⟩ = some u :=
  ⟨h, h.c.boxA.c0, h.c.boxA.c1, h.c.boxA.c2, h.c.boxA.c3, h.c.boxA.c4, h.c.boxB.c0, h.c.boxB.c1, h.c.boxB.c2, h.c.boxB.c3, h.c.boxB.c4⟩
/-- The rows of both. -/
def Two2 (w : World) (A : Ar) (v : Value) (B : Ar) (u : Value) (p q : Option Addr) (s7 s8 : Value) (W : World) : Prop :=
  ∃ h1 h2, s7 = .slice (some ⟨h1, 0, none⟩) (rwN A) (rwN A) ∧ s8 = .slice (some ⟨h2, 0, none⟩) (rwN B) (rwN B) ∧ MK2 w A v B u W ∧ W.rowIs h1 41 (rwN A) (rp p (rwM A)) ∧ W.rowIs h2 41 (rwN B) (rp q (rwM B))
/-- What the loop of Cat keeps. -/
structure Kt (w : World) (A : Ar) (v : Value) (B : Ar) (u : Value) (p q : Option Addr) (h1 h2 h3 g gc n j : Nat) (W : World) : Prop where
  m : MK2 w A v B u W
  l1 : W.rowIs h1 41 (rwN A) (rp p (rwM A))
  l2 : W.rowIs h2 41 (rwN B) (rp q (rwM B))
  l3 : W.rowIs h3 41 (rwN A) (rp (some ⟨g, 0, none⟩) (rwM A + rwM B))
  bx : R5 W gc A.k A.r (ctA A B) (ctB A B) (.slice (some ⟨g, 0, none⟩) n n)
  row : rowZ W g n (ctF A B j)
theorem Kt.next {w W W' : World} {A B : Ar} {v u : Value} {p q : Option Addr} {h1 h2 h3 g gc n j : Nat} (k : Kt w A v B u p q h1 h2 h3 g gc n j W) (s3 : 0 + 1 ≤ w.heap.size) (hg : w.heap.size + 2 < g) (q1 : h1 ≠ g) (q2 : h2 ≠ g) (q3 : h3 ≠ g) (q4 : gc ≠ g) (gA : Good A) (gB : Good B) (hj : j < rwN A) (hj2 : j < rwN B) (hb : But g W W')
    (hr : rowZ W' g n (fun x => if j * (rwM A + rwM B) + rwM A ≤ x ∧ x < j * (rwM A + rwM B) + rwM A + rwM B then (rwI B j).getD (x - (j * (rwM A + rwM B) + rwM A)) 0 else
      if j * (rwM A + rwM B) ≤ x ∧ x < j * (rwM A + rwM B) + rwM A then (rwI A j).getD (x - j * (rwM A + rwM B)) 0 else ctF A B j x)) : Kt w A v B u p q h1 h2 h3 g gc n (j + 1) W' :=
  have hbl : Below (w.heap.size + 3) W W' := hb.below (by omega)
  ⟨k.m.far hbl (k.m.c.lay.below (by omega) hbl), k.l1.of_block (hb.block _ q1), k.l2.of_block (hb.block _ q2), k.l3.of_block (hb.block _ q3), (hb.block _ q4).trans k.bx, hr.congr fun x _ => ctF_next gA gB hj hj2 x⟩

set_option maxRecDepth 100000 in
set_option maxHeartbeats 32000000 in
theorem mcat_any (A B : Ar) (v u : Value) (w : World) (hw : Ru.Lay w) (hv : RdI w.heap.size w v A.z) (hu : RdI w.heap.size w u B.z) (hnv : Ru.NilC v) (hnu : Ru.NilC u) (hlA : A.z.length ≤ 1000000) (hlB : B.z.length ≤ 1000000) :
    Calls Tryz.prog 64 #[A5 A.k A.r A.a A.b v, A5 B.k B.r B.a B.b u] w (RetE (ctV A B) (ctE A B) w) := by
  have HFa := Lib.hid (fun W g hg h1 h2 h3 => fault2_any A B v u A.k 1 2 A.k A.r A.r W g hg h1 h2 h3 hlA hlB)
  have HK := Lib.hid (MK2.new (A := A) (B := B) hw hv hu)
  have HW3 := Lib.hid hw.size
  have x0 := HK.out.c.boxA.c0; have x1 := HK.out.c.boxA.c1; have x2 := HK.out.c.boxA.c2; have x3 := HK.out.c.boxA.c3; have x4 := HK.out.c.boxA.c4; have y0 := HK.out.c.boxB.c0; have y1 := HK.out.c.boxB.c1; have y2 := HK.out.c.boxB.c2; have y3 := HK.out.c.boxB.c3; have y4 := HK.out.c.boxB.c4
  by_cases h1 : twoE A B A.k A.k 1 2 A.r A.r = 0
  · have hc := ct_ok h1
    obtain ⟨p, cap, rfl, hRa⟩ := mrows_any A v w hc.gA hc.rank hv hnv
    obtain ⟨q, dap, rfl, hRb⟩ := mrows_any B u w hc.gB (by rw [hc.same]; exact hc.rank) hu hnu
    obtain ⟨hno, hyes⟩ := ct_rows h1
    have HRa := Lib.hid hRa
    have HRb := Lib.hid hRb
    have HC := Lib.hid hc
    have HT := Lib.hid h1
    rw [h1] at HFa
    clear h1 hc hRa hRb hv hu hnv hnu hw
    by_cases hN : rwN A = rwN B
    · obtain ⟨n, hn, hn6, hcnt, hEck, hVV⟩ := hyes hN
      have k3 : (((rwN A : Nat) : Int) != ((rwN A : Nat) : Int)) = false := by simp
      rw [← hN] at HRb
      have HN := Lib.hid hN
      have HAll := Lib.hid (And.intro hn (And.intro hcnt (And.intro hEck hVV)))
      clear hno hyes hN hn hcnt hEck hVV
      go_enter Tryz.func64, Tryz.ntmps64
      go_wp2_with (go_at_call 105; (with_reducible refine (HFa.out _ _ (by first | rfl | simp) HK.out.c.lay HK.out.c.rdnA HK.out.c.rdnB).mono ?_); rintro e w1 ⟨rfl, hb⟩; have HK2 := Lib.hid (HK.out.next hb); clear HK x0 x1 x2 x3 x4 y0 y1 y2 y3 y4; have HK := HK2; clear HK2; have x0 := HK.out.c.boxA.c0; have x1 := HK.out.c.boxA.c1; have x2 := HK.out.c.boxA.c2; have x3 := HK.out.c.boxA.c3; have x4 := HK.out.c.boxA.c4; have y0 := HK.out.c.boxB.c0; have y1 := HK.out.c.boxB.c1; have y2 := HK.out.c.boxB.c2; have y3 := HK.out.c.boxB.c3; have y4 := HK.out.c.boxB.c4; clear hb)
      refine wp_region_held_drew (S := (fun W => MK2 w A (.slice p A.z.length cap) B (.slice q B.z.length dap) W ∧ W.cell? ⟨w.heap.size, 0, none⟩ = some (.int .i64 A.k) ∧ W.cell? ⟨w.heap.size, 1, none⟩ = some (.int .i64 A.r) ∧ W.cell? ⟨w.heap.size, 2, none⟩ = some (.int .i64 A.a) ∧ W.cell? ⟨w.heap.size, 3, none⟩ = some (.int .i64 A.b) ∧ W.cell? ⟨w.heap.size, 4, none⟩ = some (.slice p A.z.length cap) ∧ W.cell? ⟨w.heap.size + 1, 0, none⟩ = some (.int .i64 B.k) ∧ W.cell? ⟨w.heap.size + 1, 1, none⟩ = some (.int .i64 B.r) ∧ W.cell? ⟨w.heap.size + 1, 2, none⟩ = some (.int .i64 B.a) ∧ W.cell? ⟨w.heap.size + 1, 3, none⟩ = some (.int .i64 B.b) ∧ W.cell? ⟨w.heap.size + 1, 4, none⟩ = some (.slice q B.z.length dap))) (by kernel_rfl) ?_ (fun hHeld => ?_)
      · exact (HK.out.next (Below.refl _ _).drew).cells
      generalize World.drew _ = wd at hHeld ⊢
      refine wpAnyH_take (i := 0) (v := ?_) rfl (by kernel_rfl) (by kernel_rfl) (by kernel_rfl) (fun _ _ _ h => h) (Or.inl ⟨by rfl, ?_⟩) (by assumption) ?_
      rotate_left
      · ((intro w0 hSw); (try dsimp only at hSw); go_simp; (try with_reducible rfl))
      change wpAnyH _ _ _ _ _ _ _ (Act.put _ (some 33) _) _
      try simp only [Act.put, List.setIfInBounds_toArray, List.set_cons_zero, List.set_cons_succ]
      refine wpAnyH_take (i := 2) (v := ?_) rfl (by kernel_rfl) (by kernel_rfl) (by kernel_rfl) (fun _ _ _ h => h) (Or.inl ⟨by rfl, ?_⟩) (by assumption) ?_
      rotate_left
      · ((intro w0 hSw); (try dsimp only at hSw); go_simp; (try with_reducible rfl))
      change wpAnyH _ _ _ _ _ _ _ (Act.put _ (some 35) _) _
      try simp only [Act.put, List.setIfInBounds_toArray, List.set_cons_zero, List.set_cons_succ]
      refine wpAnyH_ready (rs := [1]) (by kernel_rfl) (by simp) ?_
      refine AllReadyH.cons rfl (fun K hK => ?_) (AllReadyH.nil)
      go_simp
      go_at_call 108
      refine (HRa.out _).mono ?_
      rintro e w1 ⟨h1, rfl, hh1, hl1, hb1⟩
      have HL1 := Lib.hid hl1
      refine hK.out _ _ ?_ (fun hHeld2 => ?_)
      · exact (hHeld.1.next hb1).cells
      clear hK K hHeld
      have hHeld := hHeld2; clear hHeld2
      try change wpAnyH _ _ _ _ _ _ _ (Act.put _ (some 34) _) _
      try dsimp only
      try simp only [Act.put, List.setIfInBounds_toArray, List.set_cons_zero, List.set_cons_succ]
      refine wpAnyH_ready (rs := [3]) (by kernel_rfl) (by simp) ?_
      refine AllReadyH.cons rfl (fun K hK => ?_) (AllReadyH.nil)
      go_simp
      go_at_call 108
      refine (HRb.out _).mono ?_
      rintro e w2 ⟨h2, rfl, hh2, hl2, hb2⟩
      have HL2 := Lib.hid hl2
      have HL1b := Lib.hid (HL1.out.of_block (hb2.block _ HL1.out.lt))
      refine hK.out _ _ ?_ (fun hHeld2 => ?_)
      · exact (hHeld.1.next hb2).cells
      clear hK K hHeld
      have hHeld := hHeld2; clear hHeld2
      try change wpAnyH _ _ _ _ _ _ _ (Act.put _ (some 36) _) _
      try dsimp only
      try simp only [Act.put, List.setIfInBounds_toArray, List.set_cons_zero, List.set_cons_succ]
      refine wpAnyH_take (i := 4) (v := ?_) rfl (by kernel_rfl) (by kernel_rfl) (by kernel_rfl) (fun _ _ _ h => h) (Or.inl ⟨by rfl, ?_⟩) (by assumption) ?_
      rotate_left
      · ((intro w0 hSw); (try dsimp only at hSw); go_simp; (try with_reducible rfl))
      change wpAnyH _ _ _ _ _ _ _ (Act.put _ (some 7) _) _
      try simp only [Act.put, List.setIfInBounds_toArray, List.set_cons_zero, List.set_cons_succ]
      refine wpAnyH_take (i := 5) (v := ?_) rfl (by kernel_rfl) (by kernel_rfl) (by kernel_rfl) (fun _ _ _ h => h) (Or.inl ⟨by rfl, ?_⟩) (by assumption) ?_
      rotate_left
      · ((intro w0 hSw); (try dsimp only at hSw); go_simp; (try with_reducible rfl))
      change wpAnyH _ _ _ _ _ _ _ (Act.put _ (some 8) _) _
      try simp only [Act.put, List.setIfInBounds_toArray, List.set_cons_zero, List.set_cons_succ]
      refine wpAnyH_done (by kernel_rfl) ?_ _
      have HK2 := Lib.hid hHeld.1
      clear HK hHeld HL1 hh1 hl1 hb1 hh2 hl2 hb2 x0 x1 x2 x3 x4 y0 y1 y2 y3 y4
      have HK := HK2
      clear HK2
      have x0 := HK.out.c.boxA.c0; have x1 := HK.out.c.boxA.c1; have x2 := HK.out.c.boxA.c2; have x3 := HK.out.c.boxA.c3; have x4 := HK.out.c.boxA.c4; have y0 := HK.out.c.boxB.c0; have y1 := HK.out.c.boxB.c1; have y2 := HK.out.c.boxB.c2; have y3 := HK.out.c.boxB.c3; have y4 := HK.out.c.boxB.c4
      have HS2 : Hid (w.heap.size + 3 ≤ w2.heap.size) := HK.out.sz
      rcases HC.out.rank with hr | hr
      · go_wp2_with fail
        generalize hW : World.alloc w2 _ = W3
        have HK3 : Hid (MK2 w A (.slice p A.z.length cap) B (.slice q B.z.length dap) W3) := by rw [← hW]; exact HK.out.next (bel1 w2 _)
        have HG3 : Hid (R2 W3 w2.heap.size A.a A.b) := by rw [← hW]; exact R2.new w2 A.a A.b
        have hW3 : ∀ c, c < w2.heap.size → W3.heap[c]? = w2.heap[c]? := fun c hc => by rw [← hW]; exact Below.heap_alloc _ _ _ hc
        clear hW HK x0 x1 x2 x3 x4 y0 y1 y2 y3 y4
        have x1 := HK3.out.c.boxA.c1
        rw [hr] at x1
        have v0 := HG3.out.c0; have v1 := HG3.out.c1; have vf := HG3.out.fr 0
        have y2 := HK3.out.c.boxB.c2
        have hw0 : IntKind.i64.wrap 0 = 0 := by rw [IntKind.wrap_i64]; omega
        have hw1 : IntKind.i64.wrap 1 = 1 := by rw [IntKind.wrap_i64]; omega
        have hwr : IntKind.i64.wrap (A.a + B.a) = ctA A B := by have := HC.out.gA.sh; have hb := rw_vec HC.out.gA hr; have hb2 := rw_vec HC.out.gB (HC.out.same.trans hr); have h4 := HC.out.gA.len4; have h5 := HC.out.gB.len4; unfold ctA; rw [if_pos hr, IntKind.wrap_i64]; omega
        go_still_tail 13, (by kernel_rfl)
        change wpList _ _ _ _ _ W3.drew
        have HKd := Lib.hid (HK3.out.next (Below.refl W3.heap.size W3).drew)
        have HGd : Hid (R2 W3.drew w2.heap.size A.a A.b) := HG3.out.next (Below.refl _ _).drew
        have hWd : ∀ c, c < w2.heap.size → W3.drew.heap[c]? = w2.heap[c]? := hW3
        generalize W3.drew = Wd at HKd HGd hWd ⊢
        clear HK3 HG3 hW3 x1 v0 v1 vf y2 hw0 hw1
        have q0 := HGd.out.c0; have vf := HGd.out.fr 0
        have HG4 : Hid (R2 (Wd.setCell ⟨w2.heap.size, 0, none⟩ (.int .i64 (ctA A B))) w2.heap.size (ctA A B) (ctB A B)) := by have := HGd.out.put0 (ctA A B); unfold Hid; rwa [show A.b = ctB A B from (if_pos hr).symm] at this
        have hws : w.heap.size + 3 ≤ w2.heap.size := HS2.out
        have HB4 : Hid (Below (w.heap.size + 3) Wd (Wd.setCell ⟨w2.heap.size, 0, none⟩ (.int .i64 (ctA A B)))) := (Below.refl _ _).setCell (p := ⟨w2.heap.size, 0, none⟩) (by show w.heap.size + 3 ≤ w2.heap.size; omega) _
        have HK := Lib.hid (HKd.out.far HB4.out (HKd.out.c.lay.below (by have := HW3.out; omega) HB4.out))
        have HL1c : Hid ((Wd.setCell ⟨w2.heap.size, 0, none⟩ (.int .i64 (ctA A B))).rowIs h1 41 (rwN A) (rp p (rwM A))) := HL1b.out.of_block (by rw [← hWd h1 HL1b.out.lt]; exact (Below.heap_setCell _ _ _ _ (by show h1 ≠ w2.heap.size; have := HL1b.out.lt; omega)))
        have HL2c : Hid ((Wd.setCell ⟨w2.heap.size, 0, none⟩ (.int .i64 (ctA A B))).rowIs h2 41 (rwN A) (rp q (rwM B))) := HL2.out.of_block (by rw [← hWd h2 HL2.out.lt]; exact (Below.heap_setCell _ _ _ _ (by show h2 ≠ w2.heap.size; have := HL2.out.lt; omega)))
        have HG5 := HG4
        clear HGd HG4 HKd HB4 HL1b HL2 hWd hr
        have x0 := HK.out.c.boxA.c0; have x1 := HK.out.c.boxA.c1; have x2 := HK.out.c.boxA.c2; have x3 := HK.out.c.boxA.c3; have x4 := HK.out.c.boxA.c4; have y0 := HK.out.c.boxB.c0; have y1 := HK.out.c.boxB.c1; have y2 := HK.out.c.boxB.c2; have y3 := HK.out.c.boxB.c3; have y4 := HK.out.c.boxB.c4
        have v0 := HG5.out.c0; have v1 := HG5.out.c1
        obtain ⟨hn, hcnt, hEck, hVV⟩ := HAll.out
        by_cases hE : ctE A B = 0
        · obtain ⟨hV1, hn4⟩ := hVV hE
          have HBl := Lib.hid (fun W hw => blank_ok (by rw [← hEck]; exact hE) W hw hcnt hn6)
          have HRc := Lib.hid (fun g W => ct_mrows HC.out hn hn4 (ct_wide HT.out hE) g W)
          have HNn := Lib.hid hn
          have HEV := Lib.hid (And.intro hV1 hE)
          clear hV1 hE hEck hVV hcnt hn
          go_wp2_with (first
            | (go_at_call 110; (with_reducible refine (HBl.out _ HK.out.c.lay).mono ?_); rintro e w5 ⟨g, rfl, hg1, hg2, hrow, hb⟩; have hgg : w.heap.size + 2 < g := (by have := HK.out.sz; omega); have HRow := Lib.hid (hrow.alloc (.cells #[.int .i64 A.k, .int .i64 A.r, .int .i64 (ctA A B), .int .i64 (ctB A B), .slice (some ⟨g, 0, none⟩) n n] 43)); have HBx := Lib.hid (R5.new w5 A.k A.r (ctA A B) (ctB A B) (.slice (some ⟨g, 0, none⟩) n n)); have hs5 := hb.size; have HL1d := Lib.hid ((HL1c.out.of_block (hb.block h1 HL1c.out.lt)).alloc (.cells #[.int .i64 A.k, .int .i64 A.r, .int .i64 (ctA A B), .int .i64 (ctB A B), .slice (some ⟨g, 0, none⟩) n n] 43)); have HL2d := Lib.hid ((HL2c.out.of_block (hb.block h2 HL2c.out.lt)).alloc (.cells #[.int .i64 A.k, .int .i64 A.r, .int .i64 (ctA A B), .int .i64 (ctB A B), .slice (some ⟨g, 0, none⟩) n n] 43)); have hh1g : h1 ≠ g := (by have := HL1c.out.lt; omega); have hh2g : h2 ≠ g := (by have := HL2c.out.lt; omega); have HK2 := Lib.hid ((HK.out.next hb).next (bel1 w5 (.cells #[.int .i64 A.k, .int .i64 A.r, .int .i64 (ctA A B), .int .i64 (ctB A B), .slice (some ⟨g, 0, none⟩) n n] 43))); clear HK x0 x1 x2 x3 x4 y0 y1 y2 y3 y4 v0 v1 HG5 hb hrow hg1 HL1c HL2c; have HK := HK2; clear HK2; have b0 := HBx.out.c0; have b1 := HBx.out.c1; have b2 := HBx.out.c2; have b3 := HBx.out.c3; have b4 := HBx.out.c4)
            | (go_at_call 108; (with_reducible refine (HRc.out g _).mono ?_); rintro e w6 ⟨h3, rfl, hh3, hl3, hb⟩; have HRow2 := Lib.hid (HRow.out.of_block (hb.block g (by simp; omega))); have hh3g : h3 ≠ g := (by simp at hh3; omega); have HBx2 := Lib.hid (HBx.out.next hb); have HL1e := Lib.hid (HL1d.out.of_block (hb.block h1 HL1d.out.lt)); have HL2e := Lib.hid (HL2d.out.of_block (hb.block h2 HL2d.out.lt)); have HL3 := Lib.hid hl3; have HK2 := Lib.hid (HK.out.next hb); clear HK b0 b1 b2 b3 b4 hb hl3 hh3 HRow HBx HL1d HL2d; have HK := HK2; clear HK2))
          have HT0 : Hid (Kt w A (.slice p A.z.length cap) B (.slice q B.z.length dap) p q h1 h2 h3 g w5.heap.size n 0 w6) := ⟨HK.out, HL1e.out, by rw [← HN.out]; exact HL2e.out, HL3.out, HBx2.out, HRow2.out.congr fun x _ => by rw [ctF_zero]⟩
          have hgc : w5.heap.size ≠ g := by omega
          clear HK HL1e HL2e HL3 HBx2 HRow2
          obtain ⟨m, hm⟩ : ∃ m, rwN A = m := ⟨_, rfl⟩
          have HNm := Lib.hid hm
          have hm4 := (rw_good HC.out.gA).2.2.2.1
          rw [hm] at hm4 ⊢
          clear hm
          go_loopg [74] m (fun gk s wr => ∃ j : Nat, j + gk = m ∧ s = .int .i64 j ∧ Kt w A (.slice p A.z.length cap) B (.slice q B.z.length dap) p q h1 h2 h3 g w5.heap.size n j wr)
          case atStart => exact ⟨0, by omega, rfl, HT0.out⟩
          case round =>
            obtain ⟨j, hjg, rfl, hk⟩ := hrel
            have HV := Lib.hid hk
            clear hk HT0
            cases gk with
            | zero =>
              have hjz : ¬ ((j : Int) < (m : Int)) := by omega
              have HF : Hid (rowZ wr g n (fun x => (ctZ A B).getD x 0)) := HV.out.row.congr fun x hx => by unfold ctF; rw [if_pos (by rw [show j = rwN A by rw [HNm.out]; omega, ← HNn.out]; exact hx)]
              have b0 := HV.out.bx.c0; have b1 := HV.out.bx.c1; have b2 := HV.out.bx.c2; have b3 := HV.out.bx.c3; have b4 := HV.out.bx.c4
              have y0 := HV.out.m.res.c0; have y1 := HV.out.m.res.c1; have y2 := HV.out.m.res.c2; have y3 := HV.out.m.res.c3; have y4 := HV.out.m.res.c4; have f0 := HV.out.m.res.fr 0; have f1 := HV.out.m.res.fr 1; have f2 := HV.out.m.res.fr 2; have f3 := HV.out.m.res.fr 3; have f4 := HV.out.m.res.fr 4; have HS := Lib.hid (HV.out.m.res.set A.k A.r (ctA A B) (ctB A B) (.slice (some ⟨g, 0, none⟩) n n)); have z0 := HS.out.c0; have z1 := HS.out.c1; have z2 := HS.out.c2; have z3 := HS.out.c3; have z4 := HS.out.c4
              go_wp2
              refine bodyPost_ret (v := .tuple #[A5 A.k A.r (ctA A B) (ctB A B) (.slice (some ⟨g, 0, none⟩) n n), .int .i64 0]) (by simp [results, Tryz.results64, go_sem, z0, z1, z2, z3, z4]) rfl ?_
              rw [HEV.out.1, HEV.out.2]
              exact ⟨_, rfl, zf_new (by rw [HNn.out]; exact ctZ_len A B) (World.rowIs.of_block HF.out.zf (st5_other _ _ _ _ _ (by omega))) (by omega) (by omega), st5_below _ _ _ _ _ (by omega) HV.out.m.c.bel⟩
            | succ g2 =>
              have hjz : (j : Int) < (m : Int) := by omega
              have hj : j < rwN A := by rw [HNm.out]; omega
              have hj2 : j < rwN B := by rw [← HN.out]; exact hj
              have hle := Nat.mul_le_mul_right (rwM A + rwM B) (show j + 1 ≤ rwN A by omega)
              rw [Nat.add_mul, Nat.one_mul, ← HNn.out] at hle
              have HNx : ∀ W', But g wr W' → rowZ W' g n (fun x => if j * (rwM A + rwM B) + rwM A ≤ x ∧ x < j * (rwM A + rwM B) + rwM A + rwM B then (rwI B j).getD (x - (j * (rwM A + rwM B) + rwM A)) 0 else if j * (rwM A + rwM B) ≤ x ∧ x < j * (rwM A + rwM B) + rwM A then (rwI A j).getD (x - j * (rwM A + rwM B)) 0 else ctF A B j x) → Kt w A (.slice p A.z.length cap) B (.slice q B.z.length dap) p q h1 h2 h3 g w5.heap.size n (j + 1) W' := fun W' hb hr => HV.out.next HW3.out hgg hh1g hh2g hh3g hgc HC.out.gA HC.out.gB hj hj2 hb hr
              have HNx := Lib.hid HNx
              have x7 : wr.cell? ⟨h3, j, none⟩ = some (.slice (some ⟨g, j * (rwM A + rwM B), none⟩) (rwM A + rwM B) (rwM A + rwM B)) := by rw [HV.out.l3.cell hj, rp_some, Nat.zero_add]
              have x8 : wr.cell? ⟨h1, j, none⟩ = some (rp p (rwM A) j) := HV.out.l1.cell hj
              have hl1 := rwI_len HC.out.gA hj
              have hl2 := rwI_len HC.out.gB hj2
              obtain ⟨w7, hcp, hrow, hbut⟩ := copy_run HV.out.row (j * (rwM A + rwM B)) (rwM A + rwM B) (rwM A + rwM B) (rp_rd HC.out.gA HV.out.m.c.rdA hj) (rwM A) (by omega) (by omega)
              have x9 : w7.cell? ⟨h2, j, none⟩ = some (rp q (rwM B) j) := (HV.out.l2.of_block (hbut.block _ hh2g)).cell hj2
              have HRd2 := Lib.hid ((rp_rd HC.out.gB HV.out.m.c.rdB hj2).below (hbut.below (by omega)))
              have HRow := Lib.hid hrow
              have HBut := Lib.hid hbut
              have HL2n := Lib.hid hl2
              have hw0 : IntKind.i64.wrap ((j : Int) + 1) = (j : Int) + 1 := by rw [IntKind.wrap_i64]; omega
              clear hrow hbut hl1 hl2
              obtain ⟨m1, hm1⟩ : ∃ m1, rwM A = m1 := ⟨_, rfl⟩
              obtain ⟨m2, hm2⟩ : ∃ m2, rwM B = m2 := ⟨_, rfl⟩
              rw [hm1, hm2] at HNx x7 HRow hle hcp
              rw [hm1] at x8
              rw [hm2] at x9 HRd2 HL2n
              clear hm1 hm2
              generalize rp p m1 j = r1 at x8 hcp
              generalize rp q m2 j = r2 at x9 HRd2
              by_cases hz : m2 = 0
              · subst hz
                rw [Nat.add_zero] at HNx x7 HRow hle hcp
                go_wp2_with fail
                go_still_tail 7, (by kernel_rfl)
                change wpList _ _ _ _ _ w7.drew
                obtain ⟨w8, hcp2, hrow2, hbut2⟩ := copy_run (w := w7.drew) HRow.out (j * m1) 0 0 (HRd2.out.below (Below.refl w.heap.size w7).drew) 0 (by have := HL2n.out; omega) (by omega)
                have HB8 := Lib.hid ((HBut.out.drew).trans hbut2)
                have HRow8 := Lib.hid hrow2
                generalize w7.drew = wd at hcp2 ⊢
                have HNw := Lib.hid (HNx.out w8 HB8.out (HRow8.out.congr fun x _ => by rw [if_neg (by omega)]; symm; rw [if_neg (by omega)]))
                clear HRow8 HB8 hrow2 hbut2 x7 x8 x9 hcp HNx HRow HRd2 HBut
                go_wp2
                go_roundg g2
                case measure => omega
                case rel => exact ⟨j + 1, by omega, by go_num, HNw.out⟩
              · have hzp : 0 < m2 := by omega
                have hz2 : 0 < m1 + m2 - m1 := by omega
                have hz3 : m1 + m2 - m1 = m2 := by omega
                have hz4 : (m1 : Int) ≤ (m1 : Int) + (m2 : Int) := by omega
                clear hz
                go_wp2_with fail
                go_still_tail 7, (by kernel_rfl)
                change wpList _ _ _ _ _ w7.drew
                obtain ⟨w8, hcp2, hrow2, hbut2⟩ := copy_run (w := w7.drew) HRow.out (j * (m1 + m2) + m1) m2 m2 (HRd2.out.below (Below.refl w.heap.size w7).drew) m2 (by have := HL2n.out; omega) (by omega)
                have HB8 := Lib.hid ((HBut.out.drew).trans hbut2)
                have HRow8 := Lib.hid hrow2
                generalize w7.drew = wd at hcp2 ⊢
                have HNw := Lib.hid (HNx.out w8 HB8.out HRow8.out)
                clear HRow8 HB8 hrow2 hbut2 x7 x8 x9 hcp HNx HRow HRd2 HBut
                go_wp2
                go_roundg g2
                case measure => omega
                case rel => exact ⟨j + 1, by omega, by go_num, HNw.out⟩
        · have HBl := Lib.hid (fun W hw => blank_no (by rw [← hEck]; exact hE) W hw hcnt hn6)
          rw [← hEck] at HBl
          have HEV := Lib.hid hE
          have k1 : (ctE A B != 0) = true := by simpa using hE
          clear hE hEck hVV hcnt hn
          go_wp2_with (go_at_call 110; (with_reducible refine (HBl.out _ HK.out.c.lay).mono ?_); rintro e w5 ⟨qx, cx, rfl, hb⟩; have HK2 := Lib.hid ((HK.out.next hb).next (bel1 w5 (.cells #[.int .i64 0, .int .i64 0, .int .i64 0, .int .i64 0, .slice qx 0 cx] 43))); clear HK x0 x1 x2 x3 x4 y0 y1 y2 y3 y4 v0 v1 HG5 hb; have HK := HK2; clear HK2; have y0 := HK.out.res.c0; have y1 := HK.out.res.c1; have y2 := HK.out.res.c2; have y3 := HK.out.res.c3; have y4 := HK.out.res.c4; have f0 := HK.out.res.fr 0; have f1 := HK.out.res.fr 1; have f2 := HK.out.res.fr 2; have f3 := HK.out.res.fr 3; have f4 := HK.out.res.fr 4; have HS := Lib.hid (HK.out.res.set 0 0 0 0 (.slice none 0 0)); have z0 := HS.out.c0; have z1 := HS.out.c1; have z2 := HS.out.c2; have z3 := HS.out.c3; have z4 := HS.out.c4)
          refine bodyPost_ret (v := .tuple #[A5 0 0 0 0 (.slice none 0 0), .int .i64 (ctE A B)]) (by simp [results, Tryz.results64, go_sem, z0, z1, z2, z3, z4]) rfl ?_
          rw [show ctV A B = Ar.no from orNo_no HEV.out]
          exact retE_no _ (st5_below _ _ _ _ _ (by omega) HK.out.c.bel)
      · go_wp2_with fail
        generalize hW : World.alloc w2 _ = W3
        have HK3 : Hid (MK2 w A (.slice p A.z.length cap) B (.slice q B.z.length dap) W3) := by rw [← hW]; exact HK.out.next (bel1 w2 _)
        have HG3 : Hid (R2 W3 w2.heap.size A.a A.b) := by rw [← hW]; exact R2.new w2 A.a A.b
        have hW3 : ∀ c, c < w2.heap.size → W3.heap[c]? = w2.heap[c]? := fun c hc => by rw [← hW]; exact Below.heap_alloc _ _ _ hc
        clear hW HK x0 x1 x2 x3 x4 y0 y1 y2 y3 y4
        have x1 := HK3.out.c.boxA.c1
        rw [hr] at x1
        have v0 := HG3.out.c0; have v1 := HG3.out.c1; have vf := HG3.out.fr 1
        have y3 := HK3.out.c.boxB.c3
        have hw0 : IntKind.i64.wrap 0 = 0 := by rw [IntKind.wrap_i64]; omega
        have hw1 : IntKind.i64.wrap 1 = 1 := by rw [IntKind.wrap_i64]; omega
        have hwr : IntKind.i64.wrap (A.b + B.b) = ctB A B := by have hb := rw_mat HC.out.gA hr; have hb2 := rw_mat HC.out.gB (HC.out.same.trans hr); unfold ctB; rw [if_neg (by omega), IntKind.wrap_i64]; omega
        go_still_tail 13, (by kernel_rfl)
        change wpList _ _ _ _ _ W3.drew
        have HKd := Lib.hid (HK3.out.next (Below.refl W3.heap.size W3).drew)
        have HGd : Hid (R2 W3.drew w2.heap.size A.a A.b) := HG3.out.next (Below.refl _ _).drew
        have hWd : ∀ c, c < w2.heap.size → W3.drew.heap[c]? = w2.heap[c]? := hW3
        generalize W3.drew = Wd at HKd HGd hWd ⊢
        clear HK3 HG3 hW3 x1 v0 v1 vf y3 hw0 hw1
        have q1 := HGd.out.c1; have vf := HGd.out.fr 1
        have HG4 : Hid (R2 (Wd.setCell ⟨w2.heap.size, 1, none⟩ (.int .i64 (ctB A B))) w2.heap.size (ctA A B) (ctB A B)) := by have := HGd.out.put1 (ctB A B); unfold Hid; rwa [show A.a = ctA A B from (if_neg (by omega)).symm] at this
        have hws : w.heap.size + 3 ≤ w2.heap.size := HS2.out
        have HB4 : Hid (Below (w.heap.size + 3) Wd (Wd.setCell ⟨w2.heap.size, 1, none⟩ (.int .i64 (ctB A B)))) := (Below.refl _ _).setCell (p := ⟨w2.heap.size, 1, none⟩) (by show w.heap.size + 3 ≤ w2.heap.size; omega) _
        have HK := Lib.hid (HKd.out.far HB4.out (HKd.out.c.lay.below (by have := HW3.out; omega) HB4.out))
        have HL1c : Hid ((Wd.setCell ⟨w2.heap.size, 1, none⟩ (.int .i64 (ctB A B))).rowIs h1 41 (rwN A) (rp p (rwM A))) := HL1b.out.of_block (by rw [← hWd h1 HL1b.out.lt]; exact (Below.heap_setCell _ _ _ _ (by show h1 ≠ w2.heap.size; have := HL1b.out.lt; omega)))
        have HL2c : Hid ((Wd.setCell ⟨w2.heap.size, 1, none⟩ (.int .i64 (ctB A B))).rowIs h2 41 (rwN A) (rp q (rwM B))) := HL2.out.of_block (by rw [← hWd h2 HL2.out.lt]; exact (Below.heap_setCell _ _ _ _ (by show h2 ≠ w2.heap.size; have := HL2.out.lt; omega)))
        have HG5 := HG4
        clear HGd HG4 HKd HB4 HL1b HL2 hWd hr
        have x0 := HK.out.c.boxA.c0; have x1 := HK.out.c.boxA.c1; have x2 := HK.out.c.boxA.c2; have x3 := HK.out.c.boxA.c3; have x4 := HK.out.c.boxA.c4; have y0 := HK.out.c.boxB.c0; have y1 := HK.out.c.boxB.c1; have y2 := HK.out.c.boxB.c2; have y3 := HK.out.c.boxB.c3; have y4 := HK.out.c.boxB.c4
        have v0 := HG5.out.c0; have v1 := HG5.out.c1
        obtain ⟨hn, hcnt, hEck, hVV⟩ := HAll.out
        by_cases hE : ctE A B = 0
        · obtain ⟨hV1, hn4⟩ := hVV hE
          have HBl := Lib.hid (fun W hw => blank_ok (by rw [← hEck]; exact hE) W hw hcnt hn6)
          have HRc := Lib.hid (fun g W => ct_mrows HC.out hn hn4 (ct_wide HT.out hE) g W)
          have HNn := Lib.hid hn
          have HEV := Lib.hid (And.intro hV1 hE)
          clear hV1 hE hEck hVV hcnt hn
          go_wp2_with (first
            | (go_at_call 110; (with_reducible refine (HBl.out _ HK.out.c.lay).mono ?_); rintro e w5 ⟨g, rfl, hg1, hg2, hrow, hb⟩; have hgg : w.heap.size + 2 < g := (by have := HK.out.sz; omega); have HRow := Lib.hid (hrow.alloc (.cells #[.int .i64 A.k, .int .i64 A.r, .int .i64 (ctA A B), .int .i64 (ctB A B), .slice (some ⟨g, 0, none⟩) n n] 43)); have HBx := Lib.hid (R5.new w5 A.k A.r (ctA A B) (ctB A B) (.slice (some ⟨g, 0, none⟩) n n)); have hs5 := hb.size; have HL1d := Lib.hid ((HL1c.out.of_block (hb.block h1 HL1c.out.lt)).alloc (.cells #[.int .i64 A.k, .int .i64 A.r, .int .i64 (ctA A B), .int .i64 (ctB A B), .slice (some ⟨g, 0, none⟩) n n] 43)); have HL2d := Lib.hid ((HL2c.out.of_block (hb.block h2 HL2c.out.lt)).alloc (.cells #[.int .i64 A.k, .int .i64 A.r, .int .i64 (ctA A B), .int .i64 (ctB A B), .slice (some ⟨g, 0, none⟩) n n] 43)); have hh1g : h1 ≠ g := (by have := HL1c.out.lt; omega); have hh2g : h2 ≠ g := (by have := HL2c.out.lt; omega); have HK2 := Lib.hid ((HK.out.next hb).next (bel1 w5 (.cells #[.int .i64 A.k, .int .i64 A.r, .int .i64 (ctA A B), .int .i64 (ctB A B), .slice (some ⟨g, 0, none⟩) n n] 43))); clear HK x0 x1 x2 x3 x4 y0 y1 y2 y3 y4 v0 v1 HG5 hb hrow hg1 HL1c HL2c; have HK := HK2; clear HK2; have b0 := HBx.out.c0; have b1 := HBx.out.c1; have b2 := HBx.out.c2; have b3 := HBx.out.c3; have b4 := HBx.out.c4)
            | (go_at_call 108; (with_reducible refine (HRc.out g _).mono ?_); rintro e w6 ⟨h3, rfl, hh3, hl3, hb⟩; have HRow2 := Lib.hid (HRow.out.of_block (hb.block g (by simp; omega))); have hh3g : h3 ≠ g := (by simp at hh3; omega); have HBx2 := Lib.hid (HBx.out.next hb); have HL1e := Lib.hid (HL1d.out.of_block (hb.block h1 HL1d.out.lt)); have HL2e := Lib.hid (HL2d.out.of_block (hb.block h2 HL2d.out.lt)); have HL3 := Lib.hid hl3; have HK2 := Lib.hid (HK.out.next hb); clear HK b0 b1 b2 b3 b4 hb hl3 hh3 HRow HBx HL1d HL2d; have HK := HK2; clear HK2))
          have HT0 : Hid (Kt w A (.slice p A.z.length cap) B (.slice q B.z.length dap) p q h1 h2 h3 g w5.heap.size n 0 w6) := ⟨HK.out, HL1e.out, by rw [← HN.out]; exact HL2e.out, HL3.out, HBx2.out, HRow2.out.congr fun x _ => by rw [ctF_zero]⟩
          have hgc : w5.heap.size ≠ g := by omega
          clear HK HL1e HL2e HL3 HBx2 HRow2
          obtain ⟨m, hm⟩ : ∃ m, rwN A = m := ⟨_, rfl⟩
          have HNm := Lib.hid hm
          have hm4 := (rw_good HC.out.gA).2.2.2.1
          rw [hm] at hm4 ⊢
          clear hm
          go_loopg [74] m (fun gk s wr => ∃ j : Nat, j + gk = m ∧ s = .int .i64 j ∧ Kt w A (.slice p A.z.length cap) B (.slice q B.z.length dap) p q h1 h2 h3 g w5.heap.size n j wr)
          case atStart => exact ⟨0, by omega, rfl, HT0.out⟩
          case round =>
            obtain ⟨j, hjg, rfl, hk⟩ := hrel
            have HV := Lib.hid hk
            clear hk HT0
            cases gk with
            | zero =>
              have hjz : ¬ ((j : Int) < (m : Int)) := by omega
              have HF : Hid (rowZ wr g n (fun x => (ctZ A B).getD x 0)) := HV.out.row.congr fun x hx => by unfold ctF; rw [if_pos (by rw [show j = rwN A by rw [HNm.out]; omega, ← HNn.out]; exact hx)]
              have b0 := HV.out.bx.c0; have b1 := HV.out.bx.c1; have b2 := HV.out.bx.c2; have b3 := HV.out.bx.c3; have b4 := HV.out.bx.c4
              have y0 := HV.out.m.res.c0; have y1 := HV.out.m.res.c1; have y2 := HV.out.m.res.c2; have y3 := HV.out.m.res.c3; have y4 := HV.out.m.res.c4; have f0 := HV.out.m.res.fr 0; have f1 := HV.out.m.res.fr 1; have f2 := HV.out.m.res.fr 2; have f3 := HV.out.m.res.fr 3; have f4 := HV.out.m.res.fr 4; have HS := Lib.hid (HV.out.m.res.set A.k A.r (ctA A B) (ctB A B) (.slice (some ⟨g, 0, none⟩) n n)); have z0 := HS.out.c0; have z1 := HS.out.c1; have z2 := HS.out.c2; have z3 := HS.out.c3; have z4 := HS.out.c4
              go_wp2
              refine bodyPost_ret (v := .tuple #[A5 A.k A.r (ctA A B) (ctB A B) (.slice (some ⟨g, 0, none⟩) n n), .int .i64 0]) (by simp [results, Tryz.results64, go_sem, z0, z1, z2, z3, z4]) rfl ?_
              rw [HEV.out.1, HEV.out.2]
              exact ⟨_, rfl, zf_new (by rw [HNn.out]; exact ctZ_len A B) (World.rowIs.of_block HF.out.zf (st5_other _ _ _ _ _ (by omega))) (by omega) (by omega), st5_below _ _ _ _ _ (by omega) HV.out.m.c.bel⟩
            | succ g2 =>
              have hjz : (j : Int) < (m : Int) := by omega
              have hj : j < rwN A := by rw [HNm.out]; omega
              have hj2 : j < rwN B := by rw [← HN.out]; exact hj
              have hle := Nat.mul_le_mul_right (rwM A + rwM B) (show j + 1 ≤ rwN A by omega)
              rw [Nat.add_mul, Nat.one_mul, ← HNn.out] at hle
              have HNx : ∀ W', But g wr W' → rowZ W' g n (fun x => if j * (rwM A + rwM B) + rwM A ≤ x ∧ x < j * (rwM A + rwM B) + rwM A + rwM B then (rwI B j).getD (x - (j * (rwM A + rwM B) + rwM A)) 0 else if j * (rwM A + rwM B) ≤ x ∧ x < j * (rwM A + rwM B) + rwM A then (rwI A j).getD (x - j * (rwM A + rwM B)) 0 else ctF A B j x) → Kt w A (.slice p A.z.length cap) B (.slice q B.z.length dap) p q h1 h2 h3 g w5.heap.size n (j + 1) W' := fun W' hb hr => HV.out.next HW3.out hgg hh1g hh2g hh3g hgc HC.out.gA HC.out.gB hj hj2 hb hr
              have HNx := Lib.hid HNx
              have x7 : wr.cell? ⟨h3, j, none⟩ = some (.slice (some ⟨g, j * (rwM A + rwM B), none⟩) (rwM A + rwM B) (rwM A + rwM B)) := by rw [HV.out.l3.cell hj, rp_some, Nat.zero_add]
              have x8 : wr.cell? ⟨h1, j, none⟩ = some (rp p (rwM A) j) := HV.out.l1.cell hj
              have hl1 := rwI_len HC.out.gA hj
              have hl2 := rwI_len HC.out.gB hj2
              obtain ⟨w7, hcp, hrow, hbut⟩ := copy_run HV.out.row (j * (rwM A + rwM B)) (rwM A + rwM B) (rwM A + rwM B) (rp_rd HC.out.gA HV.out.m.c.rdA hj) (rwM A) (by omega) (by omega)
              have x9 : w7.cell? ⟨h2, j, none⟩ = some (rp q (rwM B) j) := (HV.out.l2.of_block (hbut.block _ hh2g)).cell hj2
              have HRd2 := Lib.hid ((rp_rd HC.out.gB HV.out.m.c.rdB hj2).below (hbut.below (by omega)))
              have HRow := Lib.hid hrow
              have HBut := Lib.hid hbut
              have HL2n := Lib.hid hl2
              have hw0 : IntKind.i64.wrap ((j : Int) + 1) = (j : Int) + 1 := by rw [IntKind.wrap_i64]; omega
              clear hrow hbut hl1 hl2
              obtain ⟨m1, hm1⟩ : ∃ m1, rwM A = m1 := ⟨_, rfl⟩
              obtain ⟨m2, hm2⟩ : ∃ m2, rwM B = m2 := ⟨_, rfl⟩
              rw [hm1, hm2] at HNx x7 HRow hle hcp
              rw [hm1] at x8
              rw [hm2] at x9 HRd2 HL2n
              clear hm1 hm2
              generalize rp p m1 j = r1 at x8 hcp
              generalize rp q m2 j = r2 at x9 HRd2
              by_cases hz : m2 = 0
              · subst hz
                rw [Nat.add_zero] at HNx x7 HRow hle hcp
                go_wp2_with fail
                go_still_tail 7, (by kernel_rfl)
                change wpList _ _ _ _ _ w7.drew
                obtain ⟨w8, hcp2, hrow2, hbut2⟩ := copy_run (w := w7.drew) HRow.out (j * m1) 0 0 (HRd2.out.below (Below.refl w.heap.size w7).drew) 0 (by have := HL2n.out; omega) (by omega)
                have HB8 := Lib.hid ((HBut.out.drew).trans hbut2)
                have HRow8 := Lib.hid hrow2
                generalize w7.drew = wd at hcp2 ⊢
                have HNw := Lib.hid (HNx.out w8 HB8.out (HRow8.out.congr fun x _ => by rw [if_neg (by omega)]; symm; rw [if_neg (by omega)]))
                clear HRow8 HB8 hrow2 hbut2 x7 x8 x9 hcp HNx HRow HRd2 HBut
                go_wp2
                go_roundg g2
                case measure => omega
                case rel => exact ⟨j + 1, by omega, by go_num, HNw.out⟩
              · have hzp : 0 < m2 := by omega
                have hz2 : 0 < m1 + m2 - m1 := by omega
                have hz3 : m1 + m2 - m1 = m2 := by omega
                have hz4 : (m1 : Int) ≤ (m1 : Int) + (m2 : Int) := by omega
                clear hz
                go_wp2_with fail
                go_still_tail 7, (by kernel_rfl)
                change wpList _ _ _ _ _ w7.drew
                obtain ⟨w8, hcp2, hrow2, hbut2⟩ := copy_run (w := w7.drew) HRow.out (j * (m1 + m2) + m1) m2 m2 (HRd2.out.below (Below.refl w.heap.size w7).drew) m2 (by have := HL2n.out; omega) (by omega)
                have HB8 := Lib.hid ((HBut.out.drew).trans hbut2)
                have HRow8 := Lib.hid hrow2
                generalize w7.drew = wd at hcp2 ⊢
                have HNw := Lib.hid (HNx.out w8 HB8.out HRow8.out)
                clear HRow8 HB8 hrow2 hbut2 x7 x8 x9 hcp HNx HRow HRd2 HBut
                go_wp2
                go_roundg g2
                case measure => omega
                case rel => exact ⟨j + 1, by omega, by go_num, HNw.out⟩
        · have HBl := Lib.hid (fun W hw => blank_no (by rw [← hEck]; exact hE) W hw hcnt hn6)
          rw [← hEck] at HBl
          have HEV := Lib.hid hE
          have k1 : (ctE A B != 0) = true := by simpa using hE
          clear hE hEck hVV hcnt hn
          go_wp2_with (go_at_call 110; (with_reducible refine (HBl.out _ HK.out.c.lay).mono ?_); rintro e w5 ⟨qx, cx, rfl, hb⟩; have HK2 := Lib.hid ((HK.out.next hb).next (bel1 w5 (.cells #[.int .i64 0, .int .i64 0, .int .i64 0, .int .i64 0, .slice qx 0 cx] 43))); clear HK x0 x1 x2 x3 x4 y0 y1 y2 y3 y4 v0 v1 HG5 hb; have HK := HK2; clear HK2; have y0 := HK.out.res.c0; have y1 := HK.out.res.c1; have y2 := HK.out.res.c2; have y3 := HK.out.res.c3; have y4 := HK.out.res.c4; have f0 := HK.out.res.fr 0; have f1 := HK.out.res.fr 1; have f2 := HK.out.res.fr 2; have f3 := HK.out.res.fr 3; have f4 := HK.out.res.fr 4; have HS := Lib.hid (HK.out.res.set 0 0 0 0 (.slice none 0 0)); have z0 := HS.out.c0; have z1 := HS.out.c1; have z2 := HS.out.c2; have z3 := HS.out.c3; have z4 := HS.out.c4)
          refine bodyPost_ret (v := .tuple #[A5 0 0 0 0 (.slice none 0 0), .int .i64 (ctE A B)]) (by simp [results, Tryz.results64, go_sem, z0, z1, z2, z3, z4]) rfl ?_
          rw [show ctV A B = Ar.no from orNo_no HEV.out]
          exact retE_no _ (st5_below _ _ _ _ _ (by omega) HK.out.c.bel)
    · have hE := hno hN
      rw [show ctV A B = Ar.no from orNo_no (by rw [hE]; decide), hE]
      have k3 : (((rwN A : Nat) : Int) != ((rwN B : Nat) : Int)) = true := by simpa using (show ¬ ((rwN A : Nat) : Int) = ((rwN B : Nat) : Int) by omega)
      clear hno hyes hE hN
      go_enter Tryz.func64, Tryz.ntmps64
      go_wp2_with (go_at_call 105; (with_reducible refine (HFa.out _ _ (by first | rfl | simp) HK.out.c.lay HK.out.c.rdnA HK.out.c.rdnB).mono ?_); rintro e w1 ⟨rfl, hb⟩; have HK2 := Lib.hid (HK.out.next hb); clear HK x0 x1 x2 x3 x4 y0 y1 y2 y3 y4; have HK := HK2; clear HK2; have x0 := HK.out.c.boxA.c0; have x1 := HK.out.c.boxA.c1; have x2 := HK.out.c.boxA.c2; have x3 := HK.out.c.boxA.c3; have x4 := HK.out.c.boxA.c4; have y0 := HK.out.c.boxB.c0; have y1 := HK.out.c.boxB.c1; have y2 := HK.out.c.boxB.c2; have y3 := HK.out.c.boxB.c3; have y4 := HK.out.c.boxB.c4; clear hb)
      refine wp_region_held_drew (S := (fun W => MK2 w A (.slice p A.z.length cap) B (.slice q B.z.length dap) W ∧ W.cell? ⟨w.heap.size, 0, none⟩ = some (.int .i64 A.k) ∧ W.cell? ⟨w.heap.size, 1, none⟩ = some (.int .i64 A.r) ∧ W.cell? ⟨w.heap.size, 2, none⟩ = some (.int .i64 A.a) ∧ W.cell? ⟨w.heap.size, 3, none⟩ = some (.int .i64 A.b) ∧ W.cell? ⟨w.heap.size, 4, none⟩ = some (.slice p A.z.length cap) ∧ W.cell? ⟨w.heap.size + 1, 0, none⟩ = some (.int .i64 B.k) ∧ W.cell? ⟨w.heap.size + 1, 1, none⟩ = some (.int .i64 B.r) ∧ W.cell? ⟨w.heap.size + 1, 2, none⟩ = some (.int .i64 B.a) ∧ W.cell? ⟨w.heap.size + 1, 3, none⟩ = some (.int .i64 B.b) ∧ W.cell? ⟨w.heap.size + 1, 4, none⟩ = some (.slice q B.z.length dap))) (by kernel_rfl) ?_ (fun hHeld => ?_)
      · exact (HK.out.next (Below.refl _ _).drew).cells
      generalize World.drew _ = wd at hHeld ⊢
      refine wpAnyH_take (i := 0) (v := ?_) rfl (by kernel_rfl) (by kernel_rfl) (by kernel_rfl) (fun _ _ _ h => h) (Or.inl ⟨by rfl, ?_⟩) (by assumption) ?_
      rotate_left
      · ((intro w0 hSw); (try dsimp only at hSw); go_simp; (try with_reducible rfl))
      change wpAnyH _ _ _ _ _ _ _ (Act.put _ (some 33) _) _
      try simp only [Act.put, List.setIfInBounds_toArray, List.set_cons_zero, List.set_cons_succ]
      refine wpAnyH_take (i := 2) (v := ?_) rfl (by kernel_rfl) (by kernel_rfl) (by kernel_rfl) (fun _ _ _ h => h) (Or.inl ⟨by rfl, ?_⟩) (by assumption) ?_
      rotate_left
      · ((intro w0 hSw); (try dsimp only at hSw); go_simp; (try with_reducible rfl))
      change wpAnyH _ _ _ _ _ _ _ (Act.put _ (some 35) _) _
      try simp only [Act.put, List.setIfInBounds_toArray, List.set_cons_zero, List.set_cons_succ]
      refine wpAnyH_ready (rs := [1]) (by kernel_rfl) (by simp) ?_
      refine AllReadyH.cons rfl (fun K hK => ?_) (AllReadyH.nil)
      go_simp
      go_at_call 108
      refine (HRa.out _).mono ?_
      rintro e w1 ⟨h1, rfl, hh1, hl1, hb1⟩
      have HL1 := Lib.hid hl1
      refine hK.out _ _ ?_ (fun hHeld2 => ?_)
      · exact (hHeld.1.next hb1).cells
      clear hK K hHeld
      have hHeld := hHeld2; clear hHeld2
      try change wpAnyH _ _ _ _ _ _ _ (Act.put _ (some 34) _) _
      try dsimp only
      try simp only [Act.put, List.setIfInBounds_toArray, List.set_cons_zero, List.set_cons_succ]
      refine wpAnyH_ready (rs := [3]) (by kernel_rfl) (by simp) ?_
      refine AllReadyH.cons rfl (fun K hK => ?_) (AllReadyH.nil)
      go_simp
      go_at_call 108
      refine (HRb.out _).mono ?_
      rintro e w2 ⟨h2, rfl, hh2, hl2, hb2⟩
      have HL2 := Lib.hid hl2
      have HL1b := Lib.hid (HL1.out.of_block (hb2.block _ HL1.out.lt))
      refine hK.out _ _ ?_ (fun hHeld2 => ?_)
      · exact (hHeld.1.next hb2).cells
      clear hK K hHeld
      have hHeld := hHeld2; clear hHeld2
      try change wpAnyH _ _ _ _ _ _ _ (Act.put _ (some 36) _) _
      try dsimp only
      try simp only [Act.put, List.setIfInBounds_toArray, List.set_cons_zero, List.set_cons_succ]
      refine wpAnyH_take (i := 4) (v := ?_) rfl (by kernel_rfl) (by kernel_rfl) (by kernel_rfl) (fun _ _ _ h => h) (Or.inl ⟨by rfl, ?_⟩) (by assumption) ?_
      rotate_left
      · ((intro w0 hSw); (try dsimp only at hSw); go_simp; (try with_reducible rfl))
      change wpAnyH _ _ _ _ _ _ _ (Act.put _ (some 7) _) _
      try simp only [Act.put, List.setIfInBounds_toArray, List.set_cons_zero, List.set_cons_succ]
      refine wpAnyH_take (i := 5) (v := ?_) rfl (by kernel_rfl) (by kernel_rfl) (by kernel_rfl) (fun _ _ _ h => h) (Or.inl ⟨by rfl, ?_⟩) (by assumption) ?_
      rotate_left
      · ((intro w0 hSw); (try dsimp only at hSw); go_simp; (try with_reducible rfl))
      change wpAnyH _ _ _ _ _ _ _ (Act.put _ (some 8) _) _
      try simp only [Act.put, List.setIfInBounds_toArray, List.set_cons_zero, List.set_cons_succ]
      refine wpAnyH_done (by kernel_rfl) ?_ _
      have HK2 := Lib.hid hHeld.1
      clear HK hHeld HL1 hh1 hl1 hb1 hh2 hl2 hb2 x0 x1 x2 x3 x4 y0 y1 y2 y3 y4
      have HK := HK2
      clear HK2
      have x0 := HK.out.c.boxA.c0; have x1 := HK.out.c.boxA.c1; have x2 := HK.out.c.boxA.c2; have x3 := HK.out.c.boxA.c3; have x4 := HK.out.c.boxA.c4; have y0 := HK.out.c.boxB.c0; have y1 := HK.out.c.boxB.c1; have y2 := HK.out.c.boxB.c2; have y3 := HK.out.c.boxB.c3; have y4 := HK.out.c.boxB.c4
      have y0 := HK.out.res.c0; have y1 := HK.out.res.c1; have y2 := HK.out.res.c2; have y3 := HK.out.res.c3; have y4 := HK.out.res.c4; have f0 := HK.out.res.fr 0; have f1 := HK.out.res.fr 1; have f2 := HK.out.res.fr 2; have f3 := HK.out.res.fr 3; have f4 := HK.out.res.fr 4; have HS := Lib.hid (HK.out.res.set 0 0 0 0 (.slice none 0 0)); have z0 := HS.out.c0; have z1 := HS.out.c1; have z2 := HS.out.c2; have z3 := HS.out.c3; have z4 := HS.out.c4
      go_wp2_with fail
      exact bodyPost_ret (v := .tuple #[A5 0 0 0 0 (.slice none 0 0), .int .i64 11]) (by simp [results, Tryz.results64, go_sem, z0, z1, z2, z3, z4]) rfl (retE_no _ (st5_below _ _ _ _ _ (by omega) HK.out.c.bel))
  · obtain ⟨p, cap, rfl, _, _, _⟩ := hv
    obtain ⟨q, dap, rfl, _, _, _⟩ := hu
    clear hw hnv hnu
    have hE : ctE A B = twoE A B A.k A.k 1 2 A.r A.r := if_neg h1
    rw [show ctV A B = Ar.no from orNo_no (by rw [hE]; exact h1), hE]
    clear hE
    generalize twoE A B A.k A.k 1 2 A.r A.r = E at h1 HFa ⊢
    have k1 : (E != 0) = true := by simpa using h1
    clear h1
    go_enter Tryz.func64, Tryz.ntmps64
    go_wp2_with (go_at_call 105; (with_reducible refine (HFa.out _ _ (by first | rfl | simp) HK.out.c.lay HK.out.c.rdnA HK.out.c.rdnB).mono ?_); rintro e w1 ⟨rfl, hb⟩; have HK2 := Lib.hid (HK.out.next hb); clear HK x0 x1 x2 x3 x4 y0 y1 y2 y3 y4; have HK := HK2; clear HK2; have x0 := HK.out.c.boxA.c0; have x1 := HK.out.c.boxA.c1; have x2 := HK.out.c.boxA.c2; have x3 := HK.out.c.boxA.c3; have x4 := HK.out.c.boxA.c4; have y0 := HK.out.c.boxB.c0; have y1 := HK.out.c.boxB.c1; have y2 := HK.out.c.boxB.c2; have y3 := HK.out.c.boxB.c3; have y4 := HK.out.c.boxB.c4; clear hb; have y0 := HK.out.res.c0; have y1 := HK.out.res.c1; have y2 := HK.out.res.c2; have y3 := HK.out.res.c3; have y4 := HK.out.res.c4; have f0 := HK.out.res.fr 0; have f1 := HK.out.res.fr 1; have f2 := HK.out.res.fr 2; have f3 := HK.out.res.fr 3; have f4 := HK.out.res.fr 4; have HS := Lib.hid (HK.out.res.set 0 0 0 0 (.slice none 0 0)); have z0 := HS.out.c0; have z1 := HS.out.c1; have z2 := HS.out.c2; have z3 := HS.out.c3; have z4 := HS.out.c4)
    exact bodyPost_ret (v := .tuple #[A5 0 0 0 0 (.slice none 0 0), .int .i64 E]) (by simp [results, Tryz.results64, go_sem, z0, z1, z2, z3, z4]) rfl (retE_no _ (st5_below _ _ _ _ _ (by omega) HK.out.c.bel))
end Go.Proofs.YtpbfbejckhbijaaGreatDoor
