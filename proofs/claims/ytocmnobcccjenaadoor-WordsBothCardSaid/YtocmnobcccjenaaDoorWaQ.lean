/- parseFields: what it yields. -/
import Derived.Test.YtocmnobcccjenaaDoorScp
import Derived.Test.YtocmnobcccjenaaDoorWaP
import Derived.Test.YtocmnobcccjenaaDoorLay
import Derived.RangeFuncNested
import Derived.RangeFuncBound
import Derived.RangeFuncCalls
import Derived.RangeFuncLeaves
import Derived.RangeFuncBox
import Derived.Shelf.Abstract
import Derived.Shelf.RegionOpen
import Derived.WalkKit
import Derived.OwnWalkIn
import Derived.TacticsInMore
import Derived.LoopNIn
import Derived.LoopIn
namespace Go.Proofs.YtocmnobcccjenaaDoor
open Go.RowKit Go.Shelf
attribute [local go_sem] Oper.semAt_some

/-- What is yielded: a field's string, whether it is quoted; and whether it is a field. -/
abbrev Yd := (List UInt8 × Bool) × Bool
def encY (x : Yd) : Array Value := #[.agg #[.string ⟨x.1.1.toArray⟩, .bool x.1.2], .bool x.2]
def bad : Yd := (([], false), false)
def spY (g : List UInt8 → List Yd) : List UInt8 → List Yd
  | [] => []
  | c :: r => if c = 32 then g r else [bad]
/-- What the parser yields of what is left of a line, where a field begins. -/
def fy : Nat → List UInt8 → List Yd
  | 0, _ => []
  | f + 1, l => if l.head? = some 34 then (match quo l with
      | none => [bad]
      | some q => ((q.1, true), true) :: spY (fy f) (l.drop q.2))
    else if bw l = 0 then [bad] else ((l.take (bw l), false), true) :: spY (fy f) (l.drop (bw l))

/-- The frame of parseFields. -/
def Tm (s : ByteArray) (l k n : Nat) (t : ByteArray) (ok : Bool) (a : Act) : Prop :=
  ∃ u2 u3 u8 u9 u10 u11 u12 u13 u14 u15 u16 u17 u18 u19 u20 u21 u22 u23 u24 u25 u26 u27 u28 u29 u30 u31 u32 u33 u34 u35 u36 u37 u38 u39 u40 u41 u42 u43 u44 u45 u46 u47 u48 u49 u50 u51 u52 u53 u54 u55 u56 u57 u58 u59 u60 : Value, a = { tmps := #[.string s, .func (.yield l) #[] #[], u2, u3, .int .i64 (k : Int), .int .i64 (n : Int), .string t, .bool ok, u8, u9, u10, u11, u12, u13, u14, u15, u16, u17, u18, u19, u20, u21, u22, u23, u24, u25, u26, u27, u28, u29, u30, u31, u32, u33, u34, u35, u36, u37, u38, u39, u40, u41, u42, u43, u44, u45, u46, u47, u48, u49, u50, u51, u52, u53, u54, u55, u56, u57, u58, u59, u60], defers := [] }
/-- What holds where a run jumps to a label. -/
def PJ (s : ByteArray) (l : Nat) (xs : List Yd) (J : List Yd → World → Prop) (lb : Nat) (a : Act) (w : World) : Prop :=
  ∃ (k n f : Nat) (t : ByteArray) (ok : Bool) (pre : List Yd), Tm s l k n t ok a ∧ Lay w ∧ J pre w ∧
    ((lb = 1 ∧ k ≤ s.size ∧ s.size - k < f ∧ xs = pre ++ fy f ((byt s).drop k)) ∨
     (lb = 0 ∧ k < s.size ∧ ((byt s).drop k).head? = some 34 ∧ s.size - k < f ∧ xs = pre ++ fy f ((byt s).drop k)) ∨
     (lb = 3 ∧ 1 ≤ n ∧ k + n ≤ s.size ∧ s.size - (k + n) ≤ f ∧ xs = pre ++ spY (fy f) ((byt s).drop (k + n))) ∨
     (lb = 2 ∧ xs = pre ++ [bad]))
def PM (s : ByteArray) (lb : Nat) (a : Act) (_ : World) : Nat :=
  4 * (s.size + 1 - (intOf (a.tmps.getD 4 undef)).toNat) + (if lb = 1 then 3 else if lb = 0 then 2 else if lb = 3 then 1 else 0)

theorem mk_take (s : ByteArray) (k m : Nat) : (⟨(((byt s).drop k).take m).toArray⟩ : ByteArray) = s.extract k (k + m) := by
  apply ByteArray.ext
  apply Array.ext'
  simp [byt, List.extract_eq_take_drop]
theorem jumps_ret {J : Nat → Act → World → Prop} {Q : Exit → Act → World → Prop} {a : Act} {w : World} : jumps J Q Exit.ret a w = Q Exit.ret a w := rfl
theorem jumps_normal {J : Nat → Act → World → Prop} {Q : Exit → Act → World → Prop} {a : Act} {w : World} : jumps J Q Exit.normal a w = Q Exit.normal a w := rfl
theorem rq_le (f : Nat) : ∀ (l : List UInt8) (t : List UInt8) (n : Nat), rq f l = some (t, n) → n ≤ l.length := by
  induction f with
  | zero => intro l t n h; cases h
  | succ f ih =>
    intro l t n h
    cases l with
    | nil => cases h
    | cons c r =>
      have e : rq (f + 1) (c :: r) = if c = 34 then some ([], 1) else (rb (c :: r)).bind fun p => (rq f ((c :: r).drop p.2)).map fun q => (p.1 :: q.1, p.2 + q.2) := rfl
      rw [e] at h
      by_cases hc : c = 34
      · rw [if_pos hc] at h; injection h with h; injection h with _ h; simp; omega
      · rw [if_neg hc] at h
        cases hr : rb (c :: r) with
        | none => rw [hr] at h; cases h
        | some p =>
          rw [hr] at h
          have hp := rb_le _ p.1 p.2 hr
          cases hq : rq f ((c :: r).drop p.2) with
          | none => simp [hq] at h
          | some q =>
            have hi := ih _ q.1 q.2 hq
            simp [hq] at h
            simp at hi hp ⊢
            omega
theorem quo_le (l : List UInt8) (t : List UInt8) (n : Nat) (h : quo l = some (t, n)) : 1 ≤ n ∧ n ≤ l.length := by
  cases l with
  | nil => cases h
  | cons c r =>
    have e : quo (c :: r) = if c = 34 then (rq (r.length + 1) r).map fun q => (q.1, 1 + q.2) else none := rfl
    rw [e] at h
    by_cases hc : c = 34
    · rw [if_pos hc] at h
      cases hr : rq (r.length + 1) r with
      | none => rw [hr] at h; cases h
      | some q =>
        rw [hr] at h
        have := rq_le _ r q.1 q.2 hr
        simp only [Option.map_some] at h
        injection h with h; injection h with _ h
        simp; omega
    · rw [if_neg hc] at h; cases h
theorem enc_bad : encY bad = #[.agg #[.string ⟨#[]⟩, .bool false], .bool false] := rfl
theorem lt_of_head (s : ByteArray) (k : Nat) {c : UInt8} (h : ((byt s).drop k).head? = some c) : k < s.size := by
  rcases Nat.lt_or_ge k s.size with h1 | h1
  · exact h1
  · rw [List.drop_eq_nil_of_le (by rw [byt_len]; exact h1)] at h; cases h
theorem hp_head (l : List UInt8) : Lib.hasPrefix l [34] = decide (l.head? = some 34) := by
  cases l with
  | nil => rfl
  | cons c r =>
    simp only [Lib.hasPrefix, List.isPrefixOf, List.head?_cons, Option.some.injEq, Bool.and_true]
    by_cases h : c = 34
    · simp [h]
    · have : ¬ (34 : UInt8) = c := fun e => h e.symm
      simp [h, this]
theorem hp_t (s : ByteArray) (k : Nat) (w : World) (h : ((byt s).drop k).head? = some 34) : Calls Tryd.prog 46 #[.string (s.extract k s.size), .string ⟨#[34]⟩] w fun e w' => e = .returned (.bool true) ∧ w = w' := by
  have := hasPrefix_any (s.extract k s.size) ⟨#[34]⟩ w
  rw [show Lib.hasPrefix (s.extract k s.size).data.toList (⟨#[34]⟩ : ByteArray).data.toList = true from by
    have e : Lib.hasPrefix (byt (s.extract k s.size)) [34] = true := by rw [hp_head, byt_drop, h]; rfl
    exact e] at this
  exact this
theorem hp_f (s : ByteArray) (k : Nat) (w : World) (h : ((byt s).drop k).head? ≠ some 34) : Calls Tryd.prog 46 #[.string (s.extract k s.size), .string ⟨#[34]⟩] w fun e w' => e = .returned (.bool false) ∧ w = w' := by
  have := hasPrefix_any (s.extract k s.size) ⟨#[34]⟩ w
  rw [show Lib.hasPrefix (s.extract k s.size).data.toList (⟨#[34]⟩ : ByteArray).data.toList = false from by
    have e : Lib.hasPrefix (byt (s.extract k s.size)) [34] = false := by rw [hp_head, byt_drop, decide_eq_false h]
    exact e] at this
  exact this

set_option maxRecDepth 100000 in
set_option maxHeartbeats 4000000 in
theorem parse_in (n0 l : Nat) (s : ByteArray) (xs : List Yd) (hs : s.size ≤ 140737488351232) (hx : xs = fy (s.size + 1) (byt s)) (J Jx : List Yd → World → Prop)
    (hJb : ∀ pre A B, J pre A → Below A.heap.size A B → J pre B)
    (hY : ∀ pre x W, J pre W → pre.length < xs.length → YieldAt Fence.wide (n0 - 1) Tryd.prog l (encY x) W fun e W' =>
      (e = .returned (.bool true) ∧ J (pre ++ [x]) W' ∧ Below (6 + 1) W W') ∨ (e = .returned (.bool false) ∧ Jx (pre ++ [x]) W'))
    (W : World) (hW : Lay W) (h0 : J [] W) :
    CallsIn Fence.wide n0 Tryd.prog 40 #[.string s, .func (.yield l) #[] #[]] W fun e W' => (∃ v, e = .returned v) ∧
      ((∃ ys, ys = xs ∧ J ys W') ∨ (∃ pre, pre <+: xs ∧ Jx pre W')) := by
  refine callsIn_of_wp Tryd.func40 rfl trivial ?_ rfl
  simp only [Tryd.ntmps40, List.size_toArray, List.length_cons, List.length_nil, Nat.reduceAdd, Nat.reduceSub, Array.replicate_succ, Array.replicate_zero, List.push_toArray, List.append_toArray, List.nil_append, List.cons_append]
  gi_wp2
  refine wpIn_scope_from (PJ s l xs J) (PM s) ?_ ?_ ?_
  · rintro lb a w ⟨k, n, f, t, ok, pre, hT, hL, hJp, hc⟩
    rcases hc with ⟨rfl, _⟩ | ⟨rfl, _⟩ | ⟨rfl, _⟩ | ⟨rfl, _⟩ <;> exact ⟨_, rfl⟩
  · intro lb rest a w hf hJ
    obtain ⟨k, n, f, t, ok, pre, hT, hL, hJp, hc⟩ := hJ
    obtain ⟨u2, u3, u8, u9, u10, u11, u12, u13, u14, u15, u16, u17, u18, u19, u20, u21, u22, u23, u24, u25, u26, u27, u28, u29, u30, u31, u32, u33, u34, u35, u36, u37, u38, u39, u40, u41, u42, u43, u44, u45, u46, u47, u48, u49, u50, u51, u52, u53, u54, u55, u56, u57, u58, u59, u60, rfl⟩ := hT
    rcases hc with ⟨rfl, hk, hkf, hxs⟩ | ⟨rfl, hk, hhd, hkf, hxs⟩ | ⟨rfl, hn, hkn, hkf, hxs⟩ | ⟨rfl, hxs⟩
    · simp only [findLabel] at hf
      simp at hf
      subst hf
      have hJ0 := hJp
      obtain ⟨f, rfl⟩ : ∃ g, f = g + 1 := ⟨f - 1, by omega⟩
      have hbx := byt_drop s k
      by_cases hq : ((byt s).drop k).head? = some 34
      · have hkl : k < s.size := lt_of_head s k hq
        have C1 : Hid (Calls Tryd.prog 46 #[.string (s.extract k s.size), .string ⟨#[34]⟩] w fun e w' => e = .returned (.bool true) ∧ w = w') := hp_t s k w hq
        clear hbx hJ0
        gi_wp2
        refine ⟨trivial, fun h => (by cases h), callsIn_wide.2 ((C1.out).mono ?_)⟩
        rintro e w' ⟨rfl, rfl⟩
        gi_wp2
        refine wpIn_goto ?_
        refine ⟨⟨k, n, f + 1, t, ok, pre, ⟨_, _, _, _, _, _, _, _, _, _, _, _, _, _, _, _, _, _, _, _, _, _, _, _, _, _, _, _, _, _, _, _, _, _, _, _, _, _, _, _, _, _, _, _, _, _, _, _, _, _, _, _, _, _, _, rfl⟩, hL, hJp, .inr (.inl ⟨rfl, hkl, hq, hkf, hxs⟩)⟩, ?_⟩
        show 4 * (s.size + 1 - ((k : Int)).toNat) + 2 < 4 * (s.size + 1 - ((k : Int)).toNat) + 3
        omega
      · have C1 : Hid (Calls Tryd.prog 46 #[.string (s.extract k s.size), .string ⟨#[34]⟩] w fun e w' => e = .returned (.bool false) ∧ w = w') := hp_f s k w hq
        have C2 : Hid (Calls Tryd.prog 17 #[.string (s.extract k s.size)] w fun e w' => e = .returned (.int .i64 (bw ((byt s).drop k))) ∧ w = w') := by
          have := bareWidth_any (s.extract k s.size) w (by simp; omega)
          rw [hbx] at this; exact this
        have hbw := bw_le ((byt s).drop k)
        rw [List.length_drop, byt_len] at hbw
        have hfy : fy (f + 1) ((byt s).drop k) = if bw ((byt s).drop k) = 0 then [bad] else ((((byt s).drop k).take (bw ((byt s).drop k)), false), true) :: spY (fy f) (((byt s).drop k).drop (bw ((byt s).drop k))) := by
          show (if _ then _ else _) = _
          rw [if_neg hq]
        obtain ⟨m, hm⟩ : ∃ m, m = bw ((byt s).drop k) := ⟨_, rfl⟩
        rw [← hm] at C2 hbw hfy
        clear hbx hm hq
        by_cases hm0 : m = 0
        · subst hm0
          have HX : Hid (xs = pre ++ [bad]) := by unfold Hid; rw [hxs, hfy, if_pos rfl]
          clear hfy hxs
          gi_wp2
          refine ⟨trivial, fun h => (by cases h), callsIn_wide.2 ((C1.out).mono ?_)⟩
          rintro e w' ⟨rfl, rfl⟩
          gi_wp2
          refine ⟨trivial, fun h => (by cases h), callsIn_wide.2 ((C2.out).mono ?_)⟩
          rintro e w' ⟨rfl, rfl⟩
          gi_wp2
          refine wpIn_goto ?_
          refine ⟨⟨k, 0, f, t, ok, pre, ⟨_, _, _, _, _, _, _, _, _, _, _, _, _, _, _, _, _, _, _, _, _, _, _, _, _, _, _, _, _, _, _, _, _, _, _, _, _, _, _, _, _, _, _, _, _, _, _, _, _, _, _, _, _, _, _, rfl⟩, hL, hJp, .inr (.inr (.inr ⟨rfl, HX.out⟩))⟩, ?_⟩
          show 4 * (s.size + 1 - ((k : Int)).toNat) + 0 < 4 * (s.size + 1 - ((k : Int)).toNat) + 3
          omega
        · have hX : xs = pre ++ (((((byt s).drop k).take m, false), true) :: spY (fy f) ((byt s).drop (k + m))) := by
            rw [hxs, hfy, if_neg hm0, List.drop_drop]
          have hlen : pre.length < xs.length := by rw [hX]; simp
          have HX := Lib.hid hX
          have Hmk := Lib.hid (mk_take s k m)
          have hme : ((m : Int) == 0) = false := by rw [beq_eq_false_iff_ne]; omega
          have hm1 : 1 ≤ m := by omega
          clear hfy hxs hX hm0
          have hwr : IntKind.i64.wrap ((k : Int) + (m : Int)) = ((k + m : Nat) : Int) := by rw [IntKind.wrap_i64]; omega
          gi_wp2
          refine ⟨trivial, fun h => (by cases h), callsIn_wide.2 ((C1.out).mono ?_)⟩
          rintro e w' ⟨rfl, rfl⟩
          gi_wp2
          refine ⟨trivial, fun h => (by cases h), callsIn_wide.2 ((C2.out).mono ?_)⟩
          rintro e w' ⟨rfl, rfl⟩
          gi_wp2
          refine ⟨trivial, fun h => (by cases h), callsIn_wide.2 ((clone_any _ _ (by simp; omega)).mono ?_)⟩
          rintro e w2 ⟨rfl, hb2⟩
          have hJ2 := hJb pre _ _ hJp hb2
          have hL2 := hL.next hb2
          obtain ⟨fn, tmps, assign, body, hy, hR⟩ := hY pre ((((byt s).drop k).take m, false), true) w2 hJ2 hlen
          have hy2 : (Instr.yield l #[.agg #[.string (s.extract k (k + m)), .bool false], .bool true]).run Tryd.prog w2 = .ok (.round l fn tmps assign body) w2 := by
            rw [← Hmk.out]; exact hy
          clear hy hlen
          gi_wp2
          refine ⟨fun h => (by cases h), hR.mono ?_⟩
          rintro e W3 (⟨rfl, hJ3, hk3⟩ | ⟨rfl, hJx3⟩)
          · have hL3 := hL2.below (Nat.le_refl _) hk3
            gi_wp2
            refine wpIn_goto ?_
            refine ⟨⟨k, m, f, _, ok, _, ⟨_, _, _, _, _, _, _, _, _, _, _, _, _, _, _, _, _, _, _, _, _, _, _, _, _, _, _, _, _, _, _, _, _, _, _, _, _, _, _, _, _, _, _, _, _, _, _, _, _, _, _, _, _, _, _, rfl⟩, hL3, hJ3, .inr (.inr (.inl ⟨rfl, hm1, by omega, by omega, by rw [HX.out]; simp⟩))⟩, ?_⟩
            show 4 * (s.size + 1 - ((k : Int)).toNat) + 1 < 4 * (s.size + 1 - ((k : Int)).toNat) + 3
            omega
          · gi_wp2
            rw [jumps_ret]
            refine bodyPost_ret (results_none rfl _ _ _) rfl ?_
            exact ⟨⟨_, rfl⟩, .inr ⟨_, ⟨spY (fy f) ((byt s).drop (k + m)), by rw [HX.out]; simp⟩, hJx3⟩⟩
    · simp only [findLabel] at hf
      simp at hf
      subst hf
      obtain ⟨f, rfl⟩ : ∃ g, f = g + 1 := ⟨f - 1, by omega⟩
      have hbx := byt_drop s k
      have C1 : Hid (Calls Tryd.prog 28 #[.string (s.extract k s.size)] w fun e w' => e = .returned (.tuple #[.string ⟨(qT (quo ((byt s).drop k))).toArray⟩, .int .i64 (qN (quo ((byt s).drop k))), .bool (quo ((byt s).drop k)).isSome]) ∧ Below w.heap.size w w') := by
        have := readQuoted_any (s.extract k s.size) w hL (by simp; omega)
        rw [hbx] at this; exact this
      have hfy : fy (f + 1) ((byt s).drop k) = (match quo ((byt s).drop k) with
          | none => [bad]
          | some q => ((q.1, true), true) :: spY (fy f) (((byt s).drop k).drop q.2)) := by
        show (if _ then _ else _) = _
        rw [if_pos hhd]
      cases hqo : quo ((byt s).drop k) with
      | none =>
        rw [hqo] at hfy C1
        have HX : Hid (xs = pre ++ [bad]) := by unfold Hid; rw [hxs, hfy]
        clear hfy hxs hbx hqo hhd
        gi_wp2
        refine ⟨trivial, fun h => (by cases h), callsIn_wide.2 ((C1.out).mono ?_)⟩
        rintro e w1 ⟨rfl, hb1⟩
        gi_wp2
        refine wpIn_goto ?_
        refine ⟨⟨k, 0, f, ⟨#[]⟩, false, pre, ⟨_, _, _, _, _, _, _, _, _, _, _, _, _, _, _, _, _, _, _, _, _, _, _, _, _, _, _, _, _, _, _, _, _, _, _, _, _, _, _, _, _, _, _, _, _, _, _, _, _, _, _, _, _, _, _, rfl⟩, hL.next hb1, hJb _ _ _ hJp hb1, .inr (.inr (.inr ⟨rfl, HX.out⟩))⟩, ?_⟩
        show 4 * (s.size + 1 - ((k : Int)).toNat) + 0 < 4 * (s.size + 1 - ((k : Int)).toNat) + 2
        omega
      | some q =>
        obtain ⟨tx, m⟩ := q
        have hql := quo_le _ tx m hqo
        rw [List.length_drop, byt_len] at hql
        obtain ⟨hm1, hm2⟩ := hql
        rw [hqo] at hfy C1
        have hX : xs = pre ++ (((tx, true), true) :: spY (fy f) ((byt s).drop (k + m))) := by
          rw [hxs, hfy]; simp only [List.drop_drop]
        have hlen : pre.length < xs.length := by rw [hX]; simp
        have HX := Lib.hid hX
        have C2 : Hid (Calls Tryd.prog 28 #[.string (s.extract k s.size)] w fun e w' => e = .returned (.tuple #[.string ⟨tx.toArray⟩, .int .i64 (m : Int), .bool true]) ∧ Below w.heap.size w w') := C1
        clear hfy hxs hX hbx hqo hhd C1
        gi_wp2
        refine ⟨trivial, fun h => (by cases h), callsIn_wide.2 ((C2.out).mono ?_)⟩
        rintro e w2 ⟨rfl, hb2⟩
        have hJ2 := hJb pre _ _ hJp hb2
        have hL2 := hL.next hb2
        obtain ⟨fn, tmps, assign, body, hy, hR⟩ := hY pre ((tx, true), true) w2 hJ2 hlen
        have hy2 : (Instr.yield l #[.agg #[.string ⟨tx.toArray⟩, .bool true], .bool true]).run Tryd.prog w2 = .ok (.round l fn tmps assign body) w2 := hy
        clear hy hlen
        gi_wp2
        refine ⟨fun h => (by cases h), hR.mono ?_⟩
        rintro e W3 (⟨rfl, hJ3, hk3⟩ | ⟨rfl, hJx3⟩)
        · have hL3 := hL2.below (Nat.le_refl _) hk3
          have hxs0 : xs = (pre ++ [((tx, true), true)]) ++ spY (fy f) ((byt s).drop (k + m)) := by rw [HX.out]; simp
          have hkn := hm2
          gi_wp2
          refine wpIn_label ?_
          have hat : IntKind.i64.wrap ((k : Int) + (m : Int)) = ((k + m : Nat) : Int) := by rw [IntKind.wrap_i64]; omega
          by_cases hend : k + m = s.size
          · have HX0 : Hid (xs = (pre ++ [((tx, true), true)])) := by
              unfold Hid; rw [hxs0, hend, List.drop_eq_nil_of_le (by rw [byt_len]; exact Nat.le_refl _)]; simp [spY]
            have hb1 : (((k : Int) + (m : Int)) == (s.size : Int)) = true := by rw [beq_iff_eq]; omega
            gi_wp2
            rw [jumps_ret]
            refine bodyPost_ret (results_none rfl _ _ _) rfl ?_
            exact ⟨⟨_, rfl⟩, .inl ⟨_, HX0.out.symm, hJ3⟩⟩
          · have hb1 : (((k : Int) + (m : Int)) == (s.size : Int)) = false := by rw [beq_eq_false_iff_ne]; omega
            have hlt : k + m < s.size := by omega
            have hcons : (byt s).drop (k + m) = s[k + m] :: (byt s).drop (k + m + 1) := by
              rw [List.drop_eq_getElem_cons (by rw [byt_len]; exact hlt)]; rfl
            have hli : (k : Int) + (m : Int) < (s.size : Int) := by omega
            by_cases hsp : s[k + m] = 32
            · have hb2 := b32_t hsp
              have HX0 : Hid (xs = (pre ++ [((tx, true), true)]) ++ fy f ((byt s).drop (k + m + 1))) := by
                unfold Hid; rw [hxs0, hcons]; show _ ++ (if s[k + m] = 32 then _ else _) = _; rw [if_pos hsp]
              clear hsp hcons
              gi_wp2
              have hcast : (k : Int) + (m : Int) + 1 = ((k + m + 1 : Nat) : Int) := by omega
              rw [hcast]
              refine wpIn_goto ?_
              refine ⟨⟨k + m + 1, m, f, _, _, (pre ++ [((tx, true), true)]), ⟨_, _, _, _, _, _, _, _, _, _, _, _, _, _, _, _, _, _, _, _, _, _, _, _, _, _, _, _, _, _, _, _, _, _, _, _, _, _, _, _, _, _, _, _, _, _, _, _, _, _, _, _, _, _, _, rfl⟩, hL3, hJ3, .inl ⟨rfl, by omega, by omega, HX0.out⟩⟩, ?_⟩
              show 4 * (s.size + 1 - ((((k + m + 1 : Nat) : Int))).toNat) + 3 < 4 * (s.size + 1 - ((k : Int)).toNat) + 2
              omega
            · have hb2 := b32_f hsp
              have HX0 : xs = (pre ++ [((tx, true), true)]) ++ [bad] := by
                rw [hxs0, hcons]; show _ ++ (if s[k + m] = 32 then _ else _) = _; rw [if_neg hsp]
              clear hsp hcons
              obtain ⟨fn9, tmps9, assign9, body9, hy9, hR9⟩ := hY (pre ++ [((tx, true), true)]) bad W3 hJ3 (by rw [HX0]; simp)
              rw [enc_bad] at hy9
              have HX0X := Lib.hid HX0
              gi_wp2
              refine wpIn_label ?_
              gi_wp2
              refine ⟨fun h => (by cases h), hR9.mono ?_⟩
              rintro e9 W9 (⟨rfl, hJ9, hk9⟩ | ⟨rfl, hJx9⟩)
              · gi_wp2
                rw [jumps_normal]
                go_end0
                exact ⟨⟨_, rfl⟩, .inl ⟨_, HX0X.out.symm, hJ9⟩⟩
              · gi_wp2
                rw [jumps_normal]
                go_end0
                exact ⟨⟨_, rfl⟩, .inr ⟨_, by rw [HX0X.out]; exact List.prefix_refl _, hJx9⟩⟩
        · gi_wp2
          rw [jumps_ret]
          refine bodyPost_ret (results_none rfl _ _ _) rfl ?_
          exact ⟨⟨_, rfl⟩, .inr ⟨_, ⟨spY (fy f) ((byt s).drop (k + m)), by rw [HX.out]; simp⟩, hJx3⟩⟩
    · simp only [findLabel] at hf
      simp at hf
      subst hf
      have hxs0 := hxs
      have hat : IntKind.i64.wrap ((k : Int) + (n : Int)) = ((k + n : Nat) : Int) := by rw [IntKind.wrap_i64]; omega
      by_cases hend : k + n = s.size
      · have HX0 : Hid (xs = pre) := by
          unfold Hid; rw [hxs0, hend, List.drop_eq_nil_of_le (by rw [byt_len]; exact Nat.le_refl _)]; simp [spY]
        have hb1 : (((k : Int) + (n : Int)) == (s.size : Int)) = true := by rw [beq_iff_eq]; omega
        gi_wp2
        rw [jumps_ret]
        refine bodyPost_ret (results_none rfl _ _ _) rfl ?_
        exact ⟨⟨_, rfl⟩, .inl ⟨_, HX0.out.symm, hJp⟩⟩
      · have hb1 : (((k : Int) + (n : Int)) == (s.size : Int)) = false := by rw [beq_eq_false_iff_ne]; omega
        have hlt : k + n < s.size := by omega
        have hcons : (byt s).drop (k + n) = s[k + n] :: (byt s).drop (k + n + 1) := by
          rw [List.drop_eq_getElem_cons (by rw [byt_len]; exact hlt)]; rfl
        have hli : (k : Int) + (n : Int) < (s.size : Int) := by omega
        by_cases hsp : s[k + n] = 32
        · have hb2 := b32_t hsp
          have HX0 : Hid (xs = pre ++ fy f ((byt s).drop (k + n + 1))) := by
            unfold Hid; rw [hxs0, hcons]; show _ ++ (if s[k + n] = 32 then _ else _) = _; rw [if_pos hsp]
          clear hsp hcons
          gi_wp2
          have hcast : (k : Int) + (n : Int) + 1 = ((k + n + 1 : Nat) : Int) := by omega
          rw [hcast]
          refine wpIn_goto ?_
          refine ⟨⟨k + n + 1, n, f, _, _, pre, ⟨_, _, _, _, _, _, _, _, _, _, _, _, _, _, _, _, _, _, _, _, _, _, _, _, _, _, _, _, _, _, _, _, _, _, _, _, _, _, _, _, _, _, _, _, _, _, _, _, _, _, _, _, _, _, _, rfl⟩, hL, hJp, .inl ⟨rfl, by omega, by omega, HX0.out⟩⟩, ?_⟩
          show 4 * (s.size + 1 - ((((k + n + 1 : Nat) : Int))).toNat) + 3 < 4 * (s.size + 1 - ((k : Int)).toNat) + 1
          omega
        · have hb2 := b32_f hsp
          have HX0 : xs = pre ++ [bad] := by
            rw [hxs0, hcons]; show _ ++ (if s[k + n] = 32 then _ else _) = _; rw [if_neg hsp]
          clear hsp hcons
          obtain ⟨fn9, tmps9, assign9, body9, hy9, hR9⟩ := hY pre bad w hJp (by rw [HX0]; simp)
          rw [enc_bad] at hy9
          have HX0X := Lib.hid HX0
          gi_wp2
          refine wpIn_label ?_
          gi_wp2
          refine ⟨fun h => (by cases h), hR9.mono ?_⟩
          rintro e9 W9 (⟨rfl, hJ9, hk9⟩ | ⟨rfl, hJx9⟩)
          · gi_wp2
            rw [jumps_normal]
            go_end0
            exact ⟨⟨_, rfl⟩, .inl ⟨_, HX0X.out.symm, hJ9⟩⟩
          · gi_wp2
            rw [jumps_normal]
            go_end0
            exact ⟨⟨_, rfl⟩, .inr ⟨_, by rw [HX0X.out]; exact List.prefix_refl _, hJx9⟩⟩
    · simp only [findLabel] at hf
      simp at hf
      subst hf
      obtain ⟨fn9, tmps9, assign9, body9, hy9, hR9⟩ := hY pre bad w hJp (by rw [hxs]; simp)
      rw [enc_bad] at hy9
      have hxsX := Lib.hid hxs
      gi_wp2
      refine ⟨fun h => (by cases h), hR9.mono ?_⟩
      rintro e9 W9 (⟨rfl, hJ9, hk9⟩ | ⟨rfl, hJx9⟩)
      · gi_wp2
        rw [jumps_normal]
        go_end0
        exact ⟨⟨_, rfl⟩, .inl ⟨_, hxsX.out.symm, hJ9⟩⟩
      · gi_wp2
        rw [jumps_normal]
        go_end0
        exact ⟨⟨_, rfl⟩, .inr ⟨_, by rw [hxsX.out]; exact List.prefix_refl _, hJx9⟩⟩
  · intro hp
    gi_wp2
    refine wpIn_label ?_
    rename_i K hK
    exact hK _ _ (hp 1 _ _ _ rfl ⟨0, 0, s.size + 1, ⟨#[]⟩, false, [], ⟨_, _, _, _, _, _, _, _, _, _, _, _, _, _, _, _, _, _, _, _, _, _, _, _, _, _, _, _, _, _, _, _, _, _, _, _, _, _, _, _, _, _, _, _, _, _, _, _, _, _, _, _, _, _, _, rfl⟩, hW, h0, .inl ⟨rfl, by omega, by omega, by simpa using hx⟩⟩)
end Go.Proofs.YtocmnobcccjenaaDoor
