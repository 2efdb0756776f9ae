/- Split. -/
import Derived.Test.YtocmnobcccjenaaDoorWaQ
import Derived.Test.YtocmnobcccjenaaDoorWaR
import Derived.Test.YtocmnobcccjenaaDoorWaC
import Derived.Maps.AppendAt
namespace Go.Proofs.YtocmnobcccjenaaDoor
open Go.RowKit Go.Shelf
attribute [local go_sem] Oper.semAt_some

/-- What fieldsOf yields of a line. -/
def ysL (l : List UInt8) : List Yd := if l = [] then [] else fy (l.length + 1) l

set_option maxRecDepth 100000 in
set_option maxHeartbeats 1000000 in
theorem fieldsOf_in (n : Nat) (s : ByteArray) (w : World) :
    CallsIn Fence.wide n Tryd.prog 22 #[.string s] w fun e w' => e = .returned (.func (.func 39) #[] #[.pointer (some ⟨w.heap.size, 0, none⟩)]) ∧ w.alloc (.cells #[.string s] 9) = w' := by
  refine callsIn_of_wp Tryd.func22 rfl trivial ?_ rfl
  simp only [Tryd.ntmps22, List.size_toArray, List.length_cons, List.length_nil, Nat.reduceAdd, Nat.reduceSub, Array.replicate_succ, Array.replicate_zero, List.push_toArray, List.append_toArray, List.nil_append, List.cons_append]
  gi_wp2
  go_ret
  exact ⟨rfl, rfl⟩

theorem yield_any {m : Nat} (m' : Nat) {P : Program} {l : Nat} {args : Array Value} {W : World} {R : Ending → World → Prop} (h : YieldAt Fence.wide m P l args W R) : YieldAt Fence.wide m' P l args W R := by
  obtain ⟨fn, tmps, assign, body, hy, hR⟩ := h
  exact ⟨fn, tmps, assign, body, hy, hR.1, fun c cs _ => hR.2 c cs (room_wide _)⟩

set_option maxRecDepth 100000 in
set_option maxHeartbeats 2000000 in
theorem fields_stops (n Bn : Nat) (s : ByteArray) (hs : s.size ≤ 140737488351232) (w : World) (hw : Lay w) (hBn : Bn < w.heap.size) (hc : w.cell? ⟨Bn, 0, none⟩ = some (.string s)) :
    SeqStopsK Fence.wide n Tryd.prog 39 #[.pointer (some ⟨Bn, 0, none⟩)] encY (Below (6 + 1)) (fun ys => ys = ysL (byt s)) (fun pre => pre <+: ysL (byt s)) (ysL (byt s)).length w := by
  intro l J Jx W hW hJ _ hY h0
  have hcW : W.cell? ⟨Bn, 0, none⟩ = some (.string s) := (hW.cell (p := ⟨Bn, 0, none⟩) hBn).trans hc
  have hLW := hw.next hW
  have hJb : ∀ pre A B, J pre A → Below A.heap.size A B → J pre B := fun pre A B h hb => hJ pre A B none h ⟨hb.os, hb.tape, hb.output, hb.size, fun k hk _ => hb.block k hk⟩ (fun r e => by cases e)
  by_cases hs0 : 0 < s.size
  · have hne := ne_nil_of_size s hs0
    have hem := not_empty_of_size s hs0
    have hx : ysL (byt s) = fy (s.size + 1) (byt s) := by
      unfold ysL; rw [if_neg (by rw [byt_cons s hs0]; simp), byt_len]
    have Hp := Lib.hid (parse_in (n - 1) l s (ysL (byt s)) hs hx J Jx hJb (fun pre x W1 hj hl => yield_any _ (hY pre x W1 hj hl)) W hLW h0)
    refine callsIn_of_wp Tryd.func39 rfl trivial ?_ rfl
    simp only [Tryd.ntmps39, List.size_toArray, List.length_cons, List.length_nil, Nat.reduceAdd, Nat.reduceSub, Array.replicate_succ, Array.replicate_zero, List.push_toArray, List.append_toArray, List.nil_append, List.cons_append]
    gi_wp2
    refine ⟨trivial, fun h => (by cases h), ?_⟩
    refine (Hp.out).mono ?_
    rintro e W1 ⟨⟨v, rfl⟩, hout⟩
    gi_wp2
    go_end0
    exact ⟨⟨_, rfl⟩, hout⟩
  · have hnl := nil_of_size s hs0
    have hx : Hid (ysL (byt s) = []) := by unfold Hid ysL; rw [if_pos (by rw [← byt_eq]; exact hnl)]
    refine callsIn_of_wp Tryd.func39 rfl trivial ?_ rfl
    simp only [Tryd.ntmps39, List.size_toArray, List.length_cons, List.length_nil, Nat.reduceAdd, Nat.reduceSub, Array.replicate_succ, Array.replicate_zero, List.push_toArray, List.append_toArray, List.nil_append, List.cons_append]
    gi_wp2
    go_end0
    exact ⟨⟨_, rfl⟩, .inl ⟨_, rfl, by rw [hx.out]; exact h0⟩⟩

def splOk (l : List UInt8) : Bool := (ysL l).all (·.2)
def splF (l : List UInt8) : List Fd := (ysL l).map (·.1)
def splE (l : List UInt8) : Int := if 8192 < l.length then 3 else if splOk l = false then 6 else if tooB (splF l) = true then 3 else 0
def splV (l : List UInt8) : List Fd := if splE l = 0 then splF l else []

theorem split_results (tmps : Array Value) (W : World) (b1 b2 : Nat) (v : Value) (e : Int) (t1 t2 : TypeId) (h2 : tmps.getD 2 undef = .pointer (some ⟨b1, 0, none⟩)) (h3 : tmps.getD 3 undef = .pointer (some ⟨b2, 0, none⟩))
    (hb1 : Boxed W b1 t1 v) (hb2 : Boxed W b2 t2 (.int .i64 e)) : (results Tryd.f9 tmps).run Tryd.prog W = .ok (.tuple #[v, .int .i64 e]) W := by
  have c1 := hb1.cell
  have c2 := hb2.cell
  have h2' : tmps[2]?.getD undef = .pointer (some ⟨b1, 0, none⟩) := by simpa using h2
  have h3' : tmps[3]?.getD undef = .pointer (some ⟨b2, 0, none⟩) := by simpa using h3
  simp [results, Tryd.results9, go_sem, h2', h3', c1, c2]

/-- The loop's variable. -/
def VarAt (W : World) (B : Nat) (f : Fd) : Prop := W.heap[B]? = some (.cells #[.string ⟨f.1.toArray⟩, .bool f.2] 30 (0, 0))
theorem VarAt.kept {W W' : World} {row : Option Nat} {B : Nat} {f : Fd} (h : VarAt W B f) (hg : W.grownBy W' row) (hne : some B ≠ row) : VarAt W' B f :=
  (hg.block B (Array.getElem?_eq_some_iff.1 h).1 hne).trans h
theorem varAt_own (B : Nat) (f : Fd) : Own (fun (_ : Unit) W => VarAt W B f) := fun s X Y row hs hg hrow =>
  hs.kept hg (fun e' => by obtain ⟨o, ho, hc⟩ := hrow B e'.symm; rw [show X.heap[B]? = _ from hs] at ho; cases ho; cases hc)
theorem infoF : (Tryd.prog.info? 30).map (fun i => (i.zero, i.size, i.bytes)) = some (some (.agg #[.string ByteArray.empty, .bool false]), 2, 24) := by kernel_rfl

/-- Between two rounds: the fields so far. -/
def SpI (s : ByteArray) (w : World) (pre : List Yd) (W : World) : Prop :=
  (∀ y ∈ pre, y.2 = true) ∧ ((∃ v, Boxed W (w.heap.size + 1 + 1) 22 v ∧ W.ownsRow w.heap.size 30 2 v pre.length ((pre.map (·.1)).flatMap fdV) ∧ True) ∧ (Boxed W w.heap.size 22 (.slice none 0 0) ∧ (Boxed W (w.heap.size + 1) 25 (.int .i64 0) ∧ (Boxed W (w.heap.size + 1 + 1 + 1) 9 (.string s) ∧ Below w.heap.size w W))))
/-- A round has returned. -/
def SpX (w : World) (c : Code) (pre : List Yd) (W : World) : Prop :=
  (c = Code.ret ∧ ∃ y ∈ pre, y.2 = false) ∧ (Boxed W w.heap.size 22 (.slice none 0 0) ∧ (Boxed W (w.heap.size + 1) 25 (.int .i64 6) ∧ Below w.heap.size w W))
theorem spI_own (s : ByteArray) (w : World) (B : Nat) (h : w.heap.size ≤ B) : OwnFrom B (SpI s w) :=
  OwnFrom.and (ownFrom_pure _ _) (OwnFrom.and (Own.from (holdsRow_own w.heap.size (w.heap.size + 1 + 1) 22 30 2 (fun (pre : List Yd) => pre.length) (fun (pre : List Yd) => (List.map (·.1) pre).flatMap fdV) (fun _ _ => True)) _) (OwnFrom.and (Own.from (boxed_own _ _ _) _) (OwnFrom.and (Own.from (boxed_own _ _ _) _) (OwnFrom.and (Own.from (boxed_own _ _ _) _) (ownFrom_below (Nat.le_refl _) h)))))
theorem spX_own (w : World) (c : Code) (B : Nat) (h : w.heap.size ≤ B) : OwnFrom B (SpX w c) :=
  OwnFrom.and (ownFrom_pure _ _) (OwnFrom.and (Own.from (boxed_own _ _ _) _) (OwnFrom.and (Own.from (boxed_own _ _ _) _) (ownFrom_below (Nat.le_refl _) h)))
theorem sp_len (f : Nat) : ∀ l : List UInt8, (fy f l).length ≤ l.length + 1 := by
  induction f with
  | zero => intro l; simp [fy]
  | succ f ih =>
    have hsp : ∀ l : List UInt8, (spY (fy f) l).length ≤ l.length := by
      intro l
      cases l with
      | nil => simp [spY]
      | cons c r =>
        show (if c = 32 then _ else _ : List Yd).length ≤ _
        split
        · have := ih r; simp; omega
        · simp
    intro l
    show (if _ then _ else _ : List Yd).length ≤ _
    split
    · split
      · simp
      · have := hsp (l.drop (Prod.snd ‹_›)); simp at this ⊢; omega
    · split
      · simp
      · have := hsp (l.drop (bw l)); simp at this ⊢; omega
theorem ys_len (l : List UInt8) : (ysL l).length ≤ l.length + 1 := by
  unfold ysL; split
  · simp
  · exact sp_len _ _
theorem split_ok {l : List UInt8} (h : ¬ 8192 < l.length) (hok : ∀ y ∈ ysL l, y.2 = true) : (tooB (splF l) = true → splE l = 3 ∧ splV l = []) ∧ (tooB (splF l) = false → splE l = 0 ∧ splV l = splF l) := by
  have ho : splOk l = true := List.all_eq_true.2 hok
  constructor
  · intro ht
    have : splE l = 3 := by unfold splE; rw [if_neg h, ho, if_neg (by simp), if_pos ht]
    exact ⟨this, by unfold splV; rw [this]; rfl⟩
  · intro ht
    have : splE l = 0 := by unfold splE; rw [if_neg h, ho, if_neg (by simp), ht, if_neg (by simp)]
    exact ⟨this, by unfold splV; rw [if_pos this]⟩
theorem split_bad {l : List UInt8} (h : ¬ 8192 < l.length) (pre : List Yd) (hp : pre <+: ysL l) (y : Yd) (hy : y ∈ pre) (hf : y.2 = false) : splE l = 6 ∧ splV l = [] := by
  have ho : splOk l = false := by
    rw [Bool.eq_false_iff]; intro ht
    have := (List.all_eq_true.1 ht) y (hp.subset hy)
    rw [hf] at this; cases this
  have : splE l = 6 := by unfold splE; rw [if_neg h, if_pos ho]
  exact ⟨this, by unfold splV; rw [this]; rfl⟩
theorem boxed_below {W W' : World} {B : Nat} {t : TypeId} {v : Value} (h : Boxed W B t v) (hb : Below W.heap.size W W') : Boxed W' B t v :=
  (hb.block B h.lt).trans h
theorem own_slice {w : World} {base : Nat} {e : TypeId} {size : Nat} {v : Value} {n : Nat} {xs : List Value} (h : w.ownsRow base e size v n xs) : ∃ a k c, v = .slice a k c := by
  rcases h.2 with ⟨rfl, _⟩ | ⟨g, cap, cur, rfl, _⟩
  · exact ⟨_, _, _, rfl⟩
  · exact ⟨_, _, _, rfl⟩
theorem boxed_put {W : World} {B : Nat} {t : TypeId} {v : Value} (h : Boxed W B t v) (D : Nat) (hK : W.heap[D]? = some (.deferred (some []))) : Boxed (W.putObj D (.deferred none)) B t v := by
  have hne : B ≠ D := by intro e; subst e; rw [show W.heap[B]? = _ from h] at hK; cases hK
  unfold Boxed; rw [World.putObj_heap_other hne]; exact h

set_option maxRecDepth 100000 in
set_option maxHeartbeats 4000000 in
theorem split_in (n : Nat) (hn : 4 ≤ n) (s : ByteArray) (w : World) (hw : Lay w) (hs : s.size ≤ 140737488351232) :
    CallsIn Fence.wide n Tryd.prog 9 #[.string s] w fun e w' => ∃ v, e = .returned (.tuple #[v, .int .i64 (splE (byt s))]) ∧ Fls w' w.heap.size v (splV (byt s)) ∧ Below w.heap.size w w' := by
  have h1 : 1 ≤ n := by omega
  by_cases hlong : s.size ≤ 8192
  · have hlen := byt_len s
    have hlen2 : ¬ 8192 < (byt s).length := by omega
    obtain ⟨i0, hi, hz0, hz1, hz2⟩ := info_parts infoF
    have HLn := Lib.hid hlen2
    clear hlen hlen2
    have bR := Boxed.new w 22 (.slice none 0 0)
    have bE := Boxed.new (w.alloc (.cells #[.slice none 0 0] 22)) 25 (.int .i64 0)
    have bL := Boxed.new ((w.alloc (.cells #[.slice none 0 0] 22)).alloc (.cells #[.int .i64 0] 25)) 22 (.slice none 0 0)
    have bS := Boxed.new (((w.alloc (.cells #[.slice none 0 0] 22)).alloc (.cells #[.int .i64 0] 25)).alloc (.cells #[.slice none 0 0] 22)) 9 (.string s)
    have hB0 : Below w.heap.size w ((((w.alloc (.cells #[.slice none 0 0] 22)).alloc (.cells #[.int .i64 0] 25)).alloc (.cells #[.slice none 0 0] 22)).alloc (.cells #[.string s] 9)) :=
      ((((Below.refl _ w).alloc (Nat.le_refl _) _).alloc (by simp) _).alloc (by simp; omega) _).alloc (by simp; omega) _
    have bR' := ((bR.alloc (.cells #[.int .i64 0] 25)).alloc (.cells #[.slice none 0 0] 22)).alloc (.cells #[.string s] 9)
    have bE' := (bE.alloc (.cells #[.slice none 0 0] 22)).alloc (.cells #[.string s] 9)
    have bL' := bL.alloc (.cells #[.string s] 9)
    obtain ⟨W0, hW0⟩ : ∃ W0, ((((w.alloc (.cells #[.slice none 0 0] 22)).alloc (.cells #[.int .i64 0] 25)).alloc (.cells #[.slice none 0 0] 22)).alloc (.cells #[.string s] 9)) = W0 := ⟨_, rfl⟩
    have hsz : W0.heap.size = w.heap.size + 4 := by rw [← hW0]; simp
    rw [hW0] at bR' bE' bL' bS hB0
    simp only [World.size_alloc] at bR' bE' bL' bS
    have HB := Lib.hid (And.intro bR' (And.intro bE' (And.intro bL' (And.intro bS hB0))))
    have HS := Lib.hid hsz
    have HW := Lib.hid hW0
    clear bR bE bL bS bR' bE' bL' hB0 hsz hW0
    refine callsIn_of_wp_marks Tryd.func9 rfl trivial ?_ rfl
    simp only [Tryd.ntmps9, List.size_toArray, List.length_cons, List.length_nil, Nat.reduceAdd, Nat.reduceSub, Array.replicate_succ, Array.replicate_zero, List.push_toArray, List.append_toArray, List.nil_append, List.cons_append]
    gi_wp2_with (refine ⟨trivial, ?_⟩; gi_at_call 22; refine (fieldsOf_in (n - 1) _ _).mono ?_; rintro e w' ⟨rfl, rfl⟩)
    rw [HW.out]
    obtain ⟨bR, bE, bL, bS, hB0⟩ := HB.out
    have hsz := HS.out
    have hL0 := hw.next hB0
    refine wpIn_rangeFunc_ownH rfl h1 (gf := 39) (lb := #[.pointer (some ⟨w.heap.size + 1 + 1 + 1, 0, none⟩)]) rfl trivial (enters_of Tryd.func39 (by kernel_rfl) rfl)
      (fields_stops (n - 1) (w.heap.size + 1 + 1 + 1) s hs W0 hL0 (by omega) bS.cell) belowK_t (belowK_b hL0.size) (Below.refl _ _) (fun _ => rfl)
      (SpI s w) (SpX w) (spI_own s w _ (by omega)) (fun c => spX_own w c _ (by omega))
      ⟨by simp, ⟨_, bL, World.ownsRow_nil _ _ _ _, trivial⟩, bR, bE, bS, hB0⟩
      (fun (x : Yd) (a' : Act) (W : World) => ∃ Bx, w.heap.size + 1 + 1 + 1 < Bx ∧ VarAt W Bx x.1 ∧ a' = { tmps := #[.string s, undef, .pointer (some ⟨w.heap.size, 0, none⟩), .pointer (some ⟨w.heap.size + 1, 0, none⟩), .pointer (some ⟨w.heap.size + 1 + 1, 0, none⟩), .pointer (some ⟨Bx, 0, none⟩), .bool x.2, .string s, .int .i64 (s.size : Int), .bool (decide (8192 < (s.size : Int))), .string s, .func (.func 39) #[] #[.pointer (some ⟨w.heap.size + 1 + 1 + 1, 0, none⟩)], .agg #[.string ⟨x.1.1.toArray⟩, .bool x.1.2], .bool x.2, undef, undef, undef, undef, undef, undef, undef, undef, undef], defers := [] })
      (fun x a' => fun _ X Y row ⟨Bx, h1, h2, h3⟩ hg hr => ⟨Bx, h1, varAt_own Bx x.1 () X Y row h2 hg (fun r e => (hr r e).2), h3⟩) ?assign ?body ?done ?stop
    case assign =>
      rintro l pre ⟨⟨S, q⟩, ok⟩ W K hi' hK
      dsimp only [encY]
      have hWs := hi'.2.2.2.2.2.size
      gi_wp2
      refine hK _ _ ((KeepsOthers.alloc _ _).from _) ((Below.refl (6 + 1) W).alloc (by have := hw.size; omega) _) ⟨hi'.1, ?_, hi'.2.2.1.alloc _, hi'.2.2.2.1.alloc _, hi'.2.2.2.2.1.alloc _, hi'.2.2.2.2.2.alloc hWs _⟩ ⟨W.heap.size, Boxed.lt hi'.2.2.2.2.1, World.alloc_heap_new W _, rfl⟩
      obtain ⟨v, hv, hrow, _⟩ := hi'.2.1
      exact ⟨v, hv.alloc _, hrow.alloc _, trivial⟩
    case body =>
      rintro l pre ⟨⟨S, q⟩, ok⟩ a' W hl ⟨r, hr⟩ ⟨hok, ⟨v, hv, hrow, _⟩, hR, hE, hS, hB⟩ ⟨Bx, hBx, hVx, rfl⟩ hlt
      dsimp only at hVx ⊢
      have hWs := hB.size
      have cL := hv.cell
      have fL := hv.frozen
      have cR := hR.cell
      have fR := hR.frozen
      have cE := hE.cell
      have fE := hE.frozen
      cases ok
      · gi_wp2
        have hR1 : Boxed ((W.setCell ⟨w.heap.size, 0, none⟩ (.slice none 0 0)).setCell ⟨w.heap.size + 1, 0, none⟩ (.int .i64 6)) w.heap.size 22 (.slice none 0 0) := (hR.set _).other (by omega) _
        have hE1 : Boxed ((W.setCell ⟨w.heap.size, 0, none⟩ (.slice none 0 0)).setCell ⟨w.heap.size + 1, 0, none⟩ (.int .i64 6)) (w.heap.size + 1) 25 (.int .i64 6) := (hE.other (by omega) _).set _
        exact ⟨((KeepsOthers.setCell _ _ _).trans (KeepsOthers.setCell _ _ _)).from _, ⟨rfl, ((S, q), false), by simp, rfl⟩, hR1, hE1, (hB.setCell (Nat.le_refl _) _).setCell (by simp) _⟩
      · have v0 : W.cell? ⟨Bx, 0, none⟩ = some (.string ⟨S.toArray⟩) := cell_of_block hVx 0
        have v1 : W.cell? ⟨Bx, 1, none⟩ = some (.bool q) := cell_of_block hVx 1
        clear cR fR cE fE
        have hll : pre.length < s.size + 1 := by have := ys_len (byt s); rw [byt_len] at this; omega
        gi_wp2_with (gi_at_builtin; refine wpListIn_append_own _ rfl _ _ 22 rfl w.heap.size 30 i0 (.agg #[.string ByteArray.empty, .bool false]) 2 24 Tryd.underlying22 hi hz0 hz1 hz2 rfl (by decide) _ _ _ rfl (hrow.alloc _) ⟨W.heap.size, 0, none⟩ 1 1 [.string ⟨S.toArray⟩, .bool q] rfl rfl ?c1 ?c2 ?c3 ?c4 ?c5 ?_; rotate_left 5; intro v' w1 hown' hgrow _; obtain ⟨g', cap', rfl⟩ := ownsRow_succ hown'; obtain ⟨hv1, hv2, hr2, hk2, hb2⟩ := hv.appended (by decide) hrow hB.size (by omega) hown' hgrow; have hc1 := hv1.cell; have hf1 := hv1.frozen)
        case c1 => exact cell_two_new _ _ _ _
        case c2 => simp [Value.oneCell']
        case c3 => unfold maxLen; omega
        case c4 => omega
        case c5 => simp; omega
        have hR1 := ((hR.alloc (.cells #[.string ⟨S.toArray⟩, .bool q] 30)).kept hgrow (hR.not_row (by decide) hrow)).other (B' := w.heap.size + 1 + 1) (by omega) (.slice (some ⟨g', 0, none⟩) (pre.length + 1) cap')
        have hE1 := ((hE.alloc (.cells #[.string ⟨S.toArray⟩, .bool q] 30)).kept hgrow (hE.not_row (by decide) hrow)).other (B' := w.heap.size + 1 + 1) (by omega) (.slice (some ⟨g', 0, none⟩) (pre.length + 1) cap')
        have hS1 := ((hS.alloc (.cells #[.string ⟨S.toArray⟩, .bool q] 30)).kept hgrow (hS.not_row (by decide) hrow)).other (B' := w.heap.size + 1 + 1) (by omega) (.slice (some ⟨g', 0, none⟩) (pre.length + 1) cap')
        refine ⟨hk2.from _, hb2.mono hw.size, ⟨?_, ⟨_, hv2, ?_, trivial⟩, hR1, hE1, hS1, hB.trans hb2⟩⟩
        · intro y hy
          rcases List.mem_append.1 hy with h | h
          · exact hok y h
          · simp at h; rw [h]
        · rw [List.map_append, List.length_append, List.flatMap_append]; exact hr2
    case done =>
      rintro D ys W hD rfl ⟨hok, ⟨v, hv, hrow, _⟩, hR, hE, hS, hB⟩ hK
      obtain ⟨va, vn, vc, rfl⟩ := own_slice hrow
      have hokk := split_ok HLn.out hok
      have hfl : FldB W.heap.size W (.slice va vn vc) (splF (byt s)) := Fls.fld (base := w.heap.size) (by unfold Fls splF; rw [List.length_map]; exact hrow)
      have hyl := ys_len (byt s)
      rw [byt_len] at hyl
      have hll : (splF (byt s)).length ≤ 1000000 := by unfold splF; rw [List.length_map]; omega
      have hWs := hB.size
      have cL := hv.cell
      have HT := Lib.hid (tooLong_any (.slice va vn vc) _ W hfl hll)
      cases ht : tooB (splF (byt s))
      all_goals
        have HE := Lib.hid hokk
        have Ht := Lib.hid ht
        rw [ht] at HT
        clear hokk hok hfl hyl ht
        gi_wp2_with fail
        refine ⟨trivial, callsIn_wide.2 ((HT.out).mono ?_)⟩
        rintro e w2 ⟨rfl, hb2⟩
        have bV := boxed_below hv hb2
        have bR := boxed_below hR hb2
        have bE := boxed_below hE hb2
        have hK2 : w2.heap[D]? = some (.deferred (some [])) := (hb2.block D (Array.getElem?_eq_some_iff.1 hK).1).trans hK
        have hrow2 := own_below hrow hb2
        have hs2 := hb2.size
        have cL2 := bV.cell
        have cR2 := bR.cell
        have fR2 := bR.frozen
        have cE2 := bE.cell
        have fE2 := bE.frozen
        clear cL hR hE hv
        gi_wp2
      · have hR1 : Boxed ((w2.setCell ⟨w.heap.size, 0, none⟩ (.slice va vn vc)).setCell ⟨w.heap.size + 1, 0, none⟩ (.int .i64 0)) w.heap.size 22 (.slice va vn vc) := (bR.set _).other (by omega) _
        have hE1 : Boxed ((w2.setCell ⟨w.heap.size, 0, none⟩ (.slice va vn vc)).setCell ⟨w.heap.size + 1, 0, none⟩ (.int .i64 0)) (w.heap.size + 1) 25 (.int .i64 0) := (bE.other (by omega) _).set _
        have hD2 : ((w2.setCell ⟨w.heap.size, 0, none⟩ (.slice va vn vc)).setCell ⟨w.heap.size + 1, 0, none⟩ (.int .i64 0)).heap[D]? = some (.deferred (some [])) := by
          rw [Below.heap_setCell _ _ _ _ (by simp; omega), Below.heap_setCell _ _ _ _ (by simp; omega)]; exact hK2
        have hrow3 := ownsRow_setCell_other (ownsRow_setCell_other hrow2 (a := ⟨w.heap.size, 0, none⟩) (by intro e; exact bR.not_row (by decide) hrow2 e.symm) (.slice va vn vc)) (a := ⟨w.heap.size + 1, 0, none⟩) (by intro e; exact bE.not_row (by decide) hrow2 e.symm) (.int .i64 0)
        have hBf : Below w.heap.size w ((w2.setCell ⟨w.heap.size, 0, none⟩ (.slice va vn vc)).setCell ⟨w.heap.size + 1, 0, none⟩ (.int .i64 0)) := ((hB.trans (hb2.mono hWs)).setCell (Nat.le_refl _) _).setCell (by simp) _
        refine ⟨by simp, .inl ⟨_, _, rfl, run_takeDeferred hD2, ?_⟩⟩
        refine ⟨_, split_results _ _ w.heap.size (w.heap.size + 1) _ _ _ _ rfl rfl (boxed_put hR1 D hD2) (boxed_put hE1 D hD2), _, by rw [(HE.out.2 Ht.out).1], ?_, hBf.trans (belowK_b (w := w) (Nat.le_refl _) _ D _ _ (by omega) hD2 rfl rfl)⟩
        rw [(HE.out.2 Ht.out).2]
        unfold Fls splF
        rw [List.length_map]
        exact ownsRow_putObj hrow3 _ hD2 rfl
      · have hR1 : Boxed ((w2.setCell ⟨w.heap.size, 0, none⟩ (.slice none 0 0)).setCell ⟨w.heap.size + 1, 0, none⟩ (.int .i64 3)) w.heap.size 22 (.slice none 0 0) := (bR.set _).other (by omega) _
        have hE1 : Boxed ((w2.setCell ⟨w.heap.size, 0, none⟩ (.slice none 0 0)).setCell ⟨w.heap.size + 1, 0, none⟩ (.int .i64 3)) (w.heap.size + 1) 25 (.int .i64 3) := (bE.other (by omega) _).set _
        have hD2 : ((w2.setCell ⟨w.heap.size, 0, none⟩ (.slice none 0 0)).setCell ⟨w.heap.size + 1, 0, none⟩ (.int .i64 3)).heap[D]? = some (.deferred (some [])) := by
          rw [Below.heap_setCell _ _ _ _ (by simp; omega), Below.heap_setCell _ _ _ _ (by simp; omega)]; exact hK2
        have hBf : Below w.heap.size w ((w2.setCell ⟨w.heap.size, 0, none⟩ (.slice none 0 0)).setCell ⟨w.heap.size + 1, 0, none⟩ (.int .i64 3)) := ((hB.trans (hb2.mono hWs)).setCell (Nat.le_refl _) _).setCell (by simp) _
        refine ⟨by simp, .inl ⟨_, _, rfl, run_takeDeferred hD2, ?_⟩⟩
        refine ⟨_, split_results _ _ w.heap.size (w.heap.size + 1) _ _ _ _ rfl rfl (boxed_put hR1 D hD2) (boxed_put hE1 D hD2), _, by rw [(HE.out.1 Ht.out).1], ?_, hBf.trans (belowK_b (w := w) (Nat.le_refl _) _ D _ _ (by omega) hD2 rfl rfl)⟩
        rw [(HE.out.1 Ht.out).2]
        exact World.ownsRow_nil _ _ _ _
    case stop =>
      rintro D c pre W hD hpre ⟨⟨rfl, y, hy, hyf⟩, hR, hE, hB⟩ hK
      have HE := Lib.hid (split_bad HLn.out pre hpre y hy hyf)
      clear hy hyf hpre
      gi_wp2
      refine ⟨by simp, .inl ⟨_, _, rfl, run_takeDeferred hK, ?_⟩⟩
      refine ⟨_, split_results _ _ w.heap.size (w.heap.size + 1) _ _ _ _ rfl rfl (boxed_put hR D hK) (boxed_put hE D hK), _, by rw [HE.out.1], ?_, hB.trans (belowK_b (w := w) (Nat.le_refl _) W D _ _ (by omega) hK rfl rfl)⟩
      rw [HE.out.2]
      exact World.ownsRow_nil _ _ _ _
  · have HE : Hid (splE (byt s) = 3 ∧ splV (byt s) = []) := by
      have : splE (byt s) = 3 := by unfold splE; rw [byt_len, if_pos (by omega)]
      exact ⟨this, by unfold splV; rw [this]; rfl⟩
    have bR := Boxed.new w 22 (.slice none 0 0)
    have bE := Boxed.new (w.alloc (.cells #[.slice none 0 0] 22)) 25 (.int .i64 3)
    have bR' := bR.alloc (.cells #[.int .i64 3] 25)
    rw [World.size_alloc] at bE
    have HB := Lib.hid (And.intro bR' bE)
    clear bR bE bR'
    refine callsIn_of_wp_marks Tryd.func9 rfl trivial ?_ rfl
    simp only [Tryd.ntmps9, List.size_toArray, List.length_cons, List.length_nil, Nat.reduceAdd, Nat.reduceSub, Array.replicate_succ, Array.replicate_zero, List.push_toArray, List.append_toArray, List.nil_append, List.cons_append]
    gi_wp2
    refine ⟨_, split_results _ _ w.heap.size (w.heap.size + 1) _ _ _ _ rfl rfl HB.out.1 HB.out.2, _, by rw [HE.out.1], ?_, ((Below.refl _ w).alloc (Nat.le_refl _) _).alloc (by simp) _⟩
    rw [HE.out.2]
    exact World.ownsRow_nil _ _ _ _
end Go.Proofs.YtocmnobcccjenaaDoor
