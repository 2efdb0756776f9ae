/- last: for what the last letter stands. -/
import Derived.Test.YtpbfbejckhbijaaGreatDoorPrH
import Derived.Test.YtpbfbejckhbijaaGreatDoorExC
import Derived.Maps.OwnOps
import Derived.Maps.OwnSet
import Derived.Maps.Views
import Derived.Carry
namespace Go.Proofs.YtpbfbejckhbijaaGreatDoor
open Go.RowKit

/-- A slice of letters that can be read. -/
def RdL12 (B : Nat) (w : World) (v : Value) (zs : List Int) : Prop :=
  ∃ a cap, v = .slice a zs.length cap ∧ zs.length ≤ cap ∧ (zs ≠ [] → ∃ b off, a = some ⟨b, off, none⟩ ∧ b < B ∧ ∀ j (h : j < zs.length), w.cell? ⟨b, off + j, none⟩ = some (.int .i32 zs[j]))
theorem RdL12.next {w w' : World} {v : Value} {zs : List Int} (h : RdL12 w.heap.size w v zs) (hb : Below w.heap.size w w') : RdL12 w'.heap.size w' v zs := by
  obtain ⟨a, cap, hv, hc, h⟩ := h
  refine ⟨a, cap, hv, hc, fun hn => ?_⟩
  obtain ⟨b, off, ha, hlt, hcell⟩ := h hn
  exact ⟨b, off, ha, Nat.lt_of_lt_of_le hlt hb.size, fun j hj => (hb.cell (p := ⟨b, off + j, none⟩) hlt).trans (hcell j hj)⟩
theorem rwR_rdL {W : World} {B : Nat} {v : Value} {l : List Int} (h : RwR W B v l) : RdL12 W.heap.size W v l := by
  rcases h.2 with ⟨rfl, h0⟩ | ⟨g, cap, cur, rfl, hg, hh, r1, r2, r3, r4⟩
  · have : l = [] := List.length_eq_zero_iff.1 h0
    subst this
    exact ⟨none, 0, rfl, Nat.le_refl _, fun h => absurd rfl h⟩
  · have hlt : g < W.heap.size := (Array.getElem?_eq_some_iff.1 hh).1
    refine ⟨_, cap, rfl, by omega, fun _ => ⟨g, 0, rfl, hlt, fun j hj => ?_⟩⟩
    have := World.ownsRow.cellAt h j (by simpa using hj)
    rw [Nat.zero_add, this]
    simp [List.getElem?_eq_getElem hj]

/-! What letters stand for. -/
def env0 : Int → Option Int := fun c => if c = 105 then some 1 else if c = 48 then some 0 else if c = 49 then some 1 else if c = 50 then some 2 else none
def upE (env : Int → Option Int) (c v : Int) : Int → Option Int := fun x => if x = c then some v else env x
def lsBad (lo hi : Int) (o : Option Int) (v : Int) : Bool := (o.isSome && v != o.getD 0) || decide (v < lo) || decide (hi < v)
def lsF (lo hi : Int) : (Int → Option Int) → List Int → List Int → Option Int
  | env, L, [] => some ((env (L.headD 0)).getD 0)
  | env, c :: L, v :: V => if lsBad lo hi (env c) v = true then none else lsF lo hi (upE env c v) L V
  | _, [], _ :: _ => none
def lsV : Option Int → Value
  | none => .tuple #[.int .i64 0, .bool false]
  | some r => .tuple #[.int .i64 r, .bool true]

theorem wf32 {x : Int} (h : 0 ≤ x ∧ x < 128) : (Lit.int .i32 x).wf = true := by
  simp only [Lit.wf, IntKind.min, IntKind.max, IntKind.signed, IntKind.bits, Bool.and_eq_true, decide_eq_true_eq, if_true]
  omega
theorem wf64 {x : Int} (h : Sc.inr x = true) : (Lit.int .i64 x).wf = true := by
  have := Sc.inr_iff.1 h
  simp only [Lit.wf, IntKind.min, IntKind.max, IntKind.signed, IntKind.bits, Bool.and_eq_true, decide_eq_true_eq, if_true]
  omega
theorem key32 {x : Int} (h : 0 ≤ x ∧ x < 128) : keyOf Tryz.prog 21 (.int .i32 x) = some (.int .i32 x) := Maps.keyOf_int_mk Tryz.underlying21 (wf32 h)
theorem keyed32 : Maps.Keyed Tryz.prog 21 := Maps.int_keyed Tryz.underlying21
theorem zeroInt (w : World) : (zeroValue 3).run Tryz.prog w = .ok (.int .i64 0) w := by kernel_rfl
/-- A map that says of each letter for what it stands. -/
def MpE (w : World) (b n : Nat) (env : Int → Option Int) : Prop :=
  ∃ D : DataW Unit, w.ownsMap Tryz.prog 21 (plainElem Tryz.prog 3) b n D ∧ Maps.IsMap D ∧ ∀ x, 0 ≤ x ∧ x < 128 → Maps.has D (.int .i32 x) = (env x).isSome ∧ D.atKey (.int .i32 x) (.lit (.int .i64 0)) = .lit (.int .i64 ((env x).getD 0))
theorem MpE.made (w : World) : MpE (w.alloc (.map #[] 0)) w.heap.size 0 (fun _ => none) :=
  ⟨_, World.ownsMap_made w _ _ _, Maps.isMap_empty, fun x _ => by constructor <;> simp [DataW.atKey, Maps.has]⟩
theorem MpE.lt {w : World} {b n : Nat} {env : Int → Option Int} (h : MpE w b n env) : b < w.heap.size := by
  obtain ⟨D, h1, _⟩ := h
  exact h1.lt
theorem MpE.put {b n : Nat} {env : Int → Option Int} {D : DataW Unit} {w' : World} {c v : Int} (hc : 0 ≤ c ∧ c < 128) (hm : Maps.IsMap D)
    (hat : ∀ x, 0 ≤ x ∧ x < 128 → Maps.has D (.int .i32 x) = (env x).isSome ∧ D.atKey (.int .i32 x) (.lit (.int .i64 0)) = .lit (.int .i64 ((env x).getD 0)))
    (ho : w'.ownsMap Tryz.prog 21 (plainElem Tryz.prog 3) b n (D.put (.int .i32 c) (.lit (.int .i64 v)))) : MpE w' b n (upE env c v) := by
  refine ⟨_, ho, hm.put _ _, fun y hy => ?_⟩
  by_cases e : y = c
  · subst e
    rw [Maps.atKey_put_same hm (keyed32.key (key32 hy)), Maps.has_put_same hm (keyed32.key (key32 hy))]
    simp [upE]
  · have hne : (Lit.int .i32 y) ≠ (Lit.int .i32 c) := by intro h; exact e (by injection h)
    rw [Maps.atKey_put_other hne, Maps.has_put_other hne, (hat y hy).1, (hat y hy).2]
    simp [upE, e]
theorem MpE.congr {w : World} {b n : Nat} {env env' : Int → Option Int} (h : MpE w b n env) (he : ∀ x, 0 ≤ x ∧ x < 128 → env x = env' x) : MpE w b n env' := by
  obtain ⟨D, h1, h2, h3⟩ := h
  exact ⟨D, h1, h2, fun x hx => by rw [← he x hx]; exact h3 x hx⟩
theorem wpList_setE {w : World} {ops : Array Oper} {rest : List Oper} {o : Oper} {a : Act} {Q : Exit → Act → World → Prop} (hg : o.guard = none) (m x v : Operand) (hop : o.op = Op.mapUpdate 83 m x v)
    (b n : Nat) (env : Int → Option Int) (hm : a.eval m = .map (some b)) (hown : MpE w b n env) (hn : n < 1000000) (c d : Int) (hx : a.eval x = .int .i32 c) (hv : a.eval v = .int .i64 d) (hc : 0 ≤ c ∧ c < 128) (hd : Sc.inr d = true)
    (hK : ∀ w', MpE w' b (n + 1) (upE env c d) → w.grownBy w' (some b) → wpList Tryz.prog ops Q rest (a.put o.dst undef) w') : wpList Tryz.prog ops Q (o :: rest) a w := by
  obtain ⟨D, h1, h2, h3⟩ := hown
  refine wpList_mapUpdate_own (H := Unit) w hg m x v 83 hop 21 3 keyed32 Tryz.underlying83 _ b n D hm h1 (by unfold maxLen; omega) _ _ _ hx hv (key32 hc) (.lit (.int .i64 d)) [] (plainElem_int Tryz.underlying3 (wf64 hd)) ?_
  intro w' ho hgr
  exact hK w' (MpE.put hc h2 h3 ho) hgr
theorem wpList_insE {w : World} {ops : Array Oper} {rest : List Oper} {o : Oper} {a : Act} {Q : Exit → Act → World → Prop} (hg : o.guard = none) (m x v : Operand) (hop : o.op = Op.insert 83 m x v)
    (b n : Nat) (env : Int → Option Int) (hm : a.eval m = .map (some b)) (hown : MpE w b n env) (hn : n < 1000000) (c d : Int) (hx : a.eval x = .int .i32 c) (hv : a.eval v = .int .i64 d) (hc : 0 ≤ c ∧ c < 128) (hd : Sc.inr d = true)
    (hK : ∀ w', MpE w' b (n + 1) (upE env c d) → w.grownBy w' (some b) → wpList Tryz.prog ops Q rest (a.put o.dst undef) w') : wpList Tryz.prog ops Q (o :: rest) a w := by
  obtain ⟨D, h1, h2, h3⟩ := hown
  refine wpList_plain hg fun K' hK' => ?_
  obtain ⟨w', hrun, r1, r2⟩ := h1.update keyed32 Tryz.underlying83 (by unfold maxLen; omega) (key32 hc) (plainElem_int Tryz.underlying3 (wf64 hd))
  unfold Oper.wp
  simp [execOp, hop, hm, hx, hv, hrun, Result.andThen]
  exact hK' _ _ (hK w' (MpE.put hc h2 h3 r1) r2)
theorem wpList_getE {w : World} {ops : Array Oper} {rest : List Oper} {o : Oper} {a : Act} {Q : Exit → Act → World → Prop} (hg : o.guard = none) (m x : Operand) (hop : o.op = Op.lookup 83 m x false)
    (b n : Nat) (env : Int → Option Int) (hm : a.eval m = .map (some b)) (hown : MpE w b n env) (c : Int) (hx : a.eval x = .int .i32 c) (hc : 0 ≤ c ∧ c < 128)
    (hK : wpList Tryz.prog ops Q rest (a.put o.dst (.int .i64 ((env c).getD 0))) w) : wpList Tryz.prog ops Q (o :: rest) a w := by
  obtain ⟨D, h1, h2, h3⟩ := hown
  refine Go.wpList_lookup_own_int (H := Unit) w hg m x 83 hop 21 3 .i64 keyed32 Tryz.underlying83 Tryz.underlying3 (zeroInt _) b n D hm h1 _ _ hx (key32 hc) ?_
  intro d hat _
  rw [(h3 c hc).2] at hat
  injection hat with e
  injection e with e1 e2
  subst e2
  exact hK
theorem wpList_getE2 {w : World} {ops : Array Oper} {rest : List Oper} {o : Oper} {a : Act} {Q : Exit → Act → World → Prop} (hg : o.guard = none) (m x : Operand) (hop : o.op = Op.lookup 83 m x true)
    (b n : Nat) (env : Int → Option Int) (hm : a.eval m = .map (some b)) (hown : MpE w b n env) (c : Int) (hx : a.eval x = .int .i32 c) (hc : 0 ≤ c ∧ c < 128)
    (hK : wpList Tryz.prog ops Q rest (a.put o.dst (.tuple #[.int .i64 ((env c).getD 0), .bool (env c).isSome])) w) : wpList Tryz.prog ops Q (o :: rest) a w := by
  obtain ⟨D, h1, h2, h3⟩ := hown
  refine wpList_lookup_own_ok_int (H := Unit) w hg m x 83 hop 21 3 .i64 keyed32 Tryz.underlying83 Tryz.underlying3 (zeroInt _) b n D hm h1 _ _ hx (key32 hc) ?_
  intro d hat _
  rw [(h3 c hc).2] at hat
  injection hat with e
  injection e with e1 e2
  subst e2
  rw [(h3 c hc).1]
  exact hK
theorem env0_eq : upE (upE (upE (upE (fun _ => none) 105 1) 48 0) 49 1) 50 2 = env0 := by
  funext x
  unfold upE env0
  by_cases h1 : x = 105
  · subst h1; rfl
  by_cases h2 : x = 48
  · subst h2; rfl
  by_cases h3 : x = 49
  · subst h3; rfl
  by_cases h4 : x = 50
  · subst h4; rfl
  simp [h1, h2, h3, h4]
theorem ls_cons (lo hi : Int) (env : Int → Option Int) (c : Int) (L : List Int) (v : Int) (V : List Int) : lsF lo hi env (c :: L) (v :: V) = if lsBad lo hi (env c) v = true then none else lsF lo hi (upE env c v) L V := rfl
set_option maxRecDepth 100000 in
set_option maxHeartbeats 16000000 in
theorem last_any (L V : List Int) (lo hi : Int) (v u : Value) (w : World) (hL : RdL12 w.heap.size w v L) (hV : RdI w.heap.size w u V) (hlen : V.length < L.length) (hsz : L.length ≤ 1000) (hc : ∀ c ∈ L, 0 ≤ c ∧ c < 128) (hlh : -100 ≤ lo ∧ hi ≤ 100) :
    Calls Tryz.prog 36 #[v, u, .int .i64 lo, .int .i64 hi] w fun e w' => e = .returned (lsV (lsF lo hi env0 L V)) ∧ Below w.heap.size w w' := by
  have HMm := fun W => run_makeMap (P := Tryz.prog) 83 W
  obtain ⟨p, cap, rfl, hcl, hL⟩ := hL
  obtain ⟨q, cap', rfl, hcv, _, hV⟩ := hV
  obtain ⟨bl, ol, rfl, hbl, hL⟩ := hL (by intro e; rw [e] at hlen; simp at hlen)
  have HL := Lib.hid hL
  have HV := Lib.hid hV
  have HC := Lib.hid hc
  have HI := Lib.hid hlh
  have HLn : Hid (bl < w.heap.size ∧ V.length < L.length ∧ L.length ≤ 1000 ∧ L.length ≤ cap ∧ V.length ≤ cap') := ⟨hbl, hlen, hsz, hcl, hcv⟩
  clear hL hV hc hlh hbl
  obtain ⟨R, hR⟩ : ∃ R, R = lsF lo hi env0 L V := ⟨_, rfl⟩
  rw [← hR]
  have HR := Lib.hid hR
  clear hR
  go_enter Tryz.func36, Tryz.ntmps36
  go_upto_region 1 with fail
  go_step
  go_step
  go_step
  go_step
  have HB : Hid (Below w.heap.size w (w.alloc (.map #[] 0))) := (Below.refl _ _).alloc (Nat.le_refl _) _
  have HM := Lib.hid (MpE.made w)
  obtain ⟨gm, hgm⟩ : ∃ gm, gm = w.heap.size := ⟨_, rfl⟩
  rw [← hgm] at HB HM ⊢
  have HGm := Lib.hid hgm
  clear hgm
  generalize w.alloc (.map #[] 0) = w2 at HB HM ⊢
  refine wpList_insE rfl _ _ _ rfl gm 0 _ rfl HM.out (by omega) 105 1 rfl rfl (by decide) (by decide) ?_
  intro w3 hm3 hg3
  have HM2 := Lib.hid hm3
  have HB2 := Lib.hid (HB.out.grown hg3 (Nat.le_of_lt HM.out.lt) (fun k e => by cases e; omega))
  clear HM HB hm3 hg3
  have HM := HM2
  have HB := HB2
  clear HM2 HB2
  refine wpList_insE rfl _ _ _ rfl gm 1 _ rfl HM.out (by omega) 48 0 rfl rfl (by decide) (by decide) ?_
  intro w3 hm3 hg3
  have HM2 := Lib.hid hm3
  have HB2 := Lib.hid (HB.out.grown hg3 (Nat.le_of_lt HM.out.lt) (fun k e => by cases e; omega))
  clear HM HB hm3 hg3
  have HM := HM2
  have HB := HB2
  clear HM2 HB2
  refine wpList_insE rfl _ _ _ rfl gm 2 _ rfl HM.out (by omega) 49 1 rfl rfl (by decide) (by decide) ?_
  intro w3 hm3 hg3
  have HM2 := Lib.hid hm3
  have HB2 := Lib.hid (HB.out.grown hg3 (Nat.le_of_lt HM.out.lt) (fun k e => by cases e; omega))
  clear HM HB hm3 hg3
  have HM := HM2
  have HB := HB2
  clear HM2 HB2
  refine wpList_insE rfl _ _ _ rfl gm 3 _ rfl HM.out (by omega) 50 2 rfl rfl (by decide) (by decide) ?_
  intro w3 hm3 hg3
  have HM2 := Lib.hid hm3
  have HB2 := Lib.hid (HB.out.grown hg3 (Nat.le_of_lt HM.out.lt) (fun k e => by cases e; omega))
  clear HM HB hm3 hg3
  have HM := HM2
  have HB := HB2
  clear HM2 HB2
  rw [env0_eq] at HM
  clear HMm
  have h0 := HLn.out
  go_wp2_with fail
  clear h0
  go_loopg [11, 12, 13, 14, 19] V.length (fun gk s11 s12 s13 s14 q19 wr => ∃ (j : Nat) (env : Int → Option Int), j + gk = V.length ∧ q19 = .int .i64 j ∧ Below w.heap.size w wr ∧ MpE wr gm (4 + j) env ∧ R = lsF lo hi env (L.drop j) (V.drop j))
  case atStart => exact ⟨0, _, by omega, rfl, HGm.out ▸ HB.out, HM.out, HR.out⟩
  case round =>
    obtain ⟨j, env, hjg, rfl, hb, hm, hr⟩ := hrel
    clear HB HM HR
    have HB := Lib.hid hb
    have HM := Lib.hid hm
    clear hb hm
    cases gk with
    | zero =>
      have hjz : ¬ ((j : Int) < (V.length : Int)) := by omega
      have hj : j = V.length := by omega
      have hjL : V.length < L.length := HLn.out.2.1
      have HCx : Hid (0 ≤ L[V.length] ∧ L[V.length] < 128) := HC.out _ (List.getElem_mem hjL)
      have hx := (HB.out.cell (p := ⟨bl, ol + V.length, none⟩) HLn.out.1).trans (HL.out V.length hjL)
      have hr2 : R = some ((env L[V.length]).getD 0) := by
        rw [hr, hj, List.drop_length, List.drop_eq_getElem_cons hjL]
        rfl
      clear hr hj
      generalize L[V.length] = c at HCx hx hr2
      have HR2 := Lib.hid hr2
      clear hr2
      have h0 := HLn.out
      go_wp2_with (first | (at_lookup; refine wpList_getE rfl _ _ rfl gm _ _ rfl HM.out c rfl HCx.out ?_) | fail)
      go_ret2
      exact ⟨by rw [HR2.out]; rfl, HB.out⟩
    | succ g2 =>
      have hjz : (j : Int) < (V.length : Int) := by omega
      have hj : j < V.length := by omega
      have hjL : j < L.length := by have := HLn.out; omega
      have hwi : IntKind.i64.wrap ((j : Int) + 1) = (j : Int) + 1 := by rw [IntKind.wrap_i64]; have := HLn.out; omega
      obtain ⟨bv, ov, hq, hbv, hcv⟩ := HV.out (by intro e; rw [e] at hj; simp at hj)
      subst hq
      have hy : wr.cell? ⟨bv, ov + j, none⟩ = some (.int .i64 V[j]) := (HB.out.cell (p := ⟨bv, ov + j, none⟩) hbv).trans (hcv j hj)
      have hx := (HB.out.cell (p := ⟨bl, ol + j, none⟩) HLn.out.1).trans (HL.out j hjL)
      have HCx : Hid (0 ≤ L[j] ∧ L[j] < 128) := HC.out _ (List.getElem_mem hjL)
      have hr2 : R = lsF lo hi env (L[j] :: L.drop (j + 1)) (V[j] :: V.drop (j + 1)) := by
        rw [hr, List.drop_eq_getElem_cons hjL, List.drop_eq_getElem_cons hj]
      rw [ls_cons] at hr2
      clear hr hcv
      generalize L[j] = c at HCx hx hr2
      generalize V[j] = y at hy hr2
      have HR2 := Lib.hid hr2
      clear hr2
      have h0 := HLn.out
      have hS : ∀ b : Bool, b = true ∨ b = false := fun b => by cases b <;> simp
      obtain ⟨kb, hkb⟩ : ∃ kb, kb = (env c).isSome := ⟨_, rfl⟩
      obtain ⟨d, hd⟩ : ∃ d, d = (env c).getD 0 := ⟨_, rfl⟩
      have HLk : ∀ wr (rest : List Oper) (ops : Array Oper) (o : Oper) (a : Act) (Q : Exit → Act → World → Prop) (m x : Operand), o.guard = none → o.op = Op.lookup 83 m x true → a.eval m = .map (some gm) → MpE wr gm (4 + j) env → a.eval x = .int .i32 c → wpList Tryz.prog ops Q rest (a.put o.dst (.tuple #[.int .i64 d, .bool kb])) wr → wpList Tryz.prog ops Q (o :: rest) a wr := fun wr rest ops o a Q m x h1 h2 h3 h4 h5 h6 => wpList_getE2 h1 m x h2 gm _ _ h3 h4 c h5 HCx.out (by rw [← hkb, ← hd]; exact h6)
      have HLk2 := Lib.hid HLk
      clear HLk
      have hbad : lsBad lo hi (env c) y = ((kb && y != d) || decide (y < lo) || decide (hi < y)) := by rw [hkb, hd]; rfl
      rw [hbad] at HR2
      clear hbad hkb hd
      cases kb
      · by_cases hlo : y < lo
        · have hr3 : R = none := by rw [HR2.out]; simp [hlo]
          have q1 : decide (y < lo) = true := decide_eq_true hlo
          go_wp2_with (first | (at_lookup; refine HLk2.out _ _ _ _ _ _ _ _ rfl rfl rfl HM.out rfl ?_) | fail)
          go_ret2
          exact ⟨by first | rfl | (rw [hr3]; rfl), HB.out⟩
        have q1 : decide (y < lo) = false := decide_eq_false hlo
        by_cases hhi : hi < y
        · have hr3 : R = none := by rw [HR2.out]; simp [hhi]
          have q2 : decide (hi < y) = true := decide_eq_true hhi
          go_wp2_with (first | (at_lookup; refine HLk2.out _ _ _ _ _ _ _ _ rfl rfl rfl HM.out rfl ?_) | fail)
          go_ret2
          exact ⟨by first | rfl | (rw [hr3]; rfl), HB.out⟩
        have q2 : decide (hi < y) = false := decide_eq_false hhi
        have HIx : Hid (Sc.inr y = true) := Sc.inr_iff.2 (by have := HI.out; omega)
        have hr3 : R = lsF lo hi (upE env c y) (L.drop (j + 1)) (V.drop (j + 1)) := by rw [HR2.out, if_neg (by simp [q1, q2])]
        go_wp2_with (first | (at_lookup; refine HLk2.out _ _ _ _ _ _ _ _ rfl rfl rfl HM.out rfl ?_) | (at_mapUpdate; refine wpList_setE rfl _ _ _ rfl gm _ _ rfl HM.out (by omega) c y rfl rfl HCx.out HIx.out ?_; intro w3 hm3 hg3; have HM2 := Lib.hid hm3; have HB2 := Lib.hid (HB.out.grown hg3 (by have := HB.out.size; have := HGm.out; omega) (fun k e => by cases e; have := HGm.out; omega)); clear hm3 hg3) | fail)
        go_roundg g2
        case measure => omega
        case rel => exact ⟨j + 1, _, by omega, by go_num, HB2.out, HM2.out, hr3⟩
      · by_cases hyd : y = d
        · subst hyd
          have q0 : (y != y) = false := by simp
          by_cases hlo : y < lo
          · have hr3 : R = none := by rw [HR2.out]; simp [hlo]
            have q1 : decide (y < lo) = true := decide_eq_true hlo
            go_wp2_with (first | (at_lookup; refine HLk2.out _ _ _ _ _ _ _ _ rfl rfl rfl HM.out rfl ?_) | fail)
            go_ret2
            exact ⟨by first | rfl | (rw [hr3]; rfl), HB.out⟩
          have q1 : decide (y < lo) = false := decide_eq_false hlo
          by_cases hhi : hi < y
          · have hr3 : R = none := by rw [HR2.out]; simp [hhi]
            have q2 : decide (hi < y) = true := decide_eq_true hhi
            go_wp2_with (first | (at_lookup; refine HLk2.out _ _ _ _ _ _ _ _ rfl rfl rfl HM.out rfl ?_) | fail)
            go_ret2
            exact ⟨by first | rfl | (rw [hr3]; rfl), HB.out⟩
          have q2 : decide (hi < y) = false := decide_eq_false hhi
          have HIx : Hid (Sc.inr y = true) := Sc.inr_iff.2 (by have := HI.out; omega)
          have hr3 : R = lsF lo hi (upE env c y) (L.drop (j + 1)) (V.drop (j + 1)) := by rw [HR2.out, if_neg (by simp [q1, q2])]
          go_wp2_with (first | (at_lookup; refine HLk2.out _ _ _ _ _ _ _ _ rfl rfl rfl HM.out rfl ?_) | (at_mapUpdate; refine wpList_setE rfl _ _ _ rfl gm _ _ rfl HM.out (by omega) c y rfl rfl HCx.out HIx.out ?_; intro w3 hm3 hg3; have HM2 := Lib.hid hm3; have HB2 := Lib.hid (HB.out.grown hg3 (by have := HB.out.size; have := HGm.out; omega) (fun k e => by cases e; have := HGm.out; omega)); clear hm3 hg3) | fail)
          go_roundg g2
          case measure => omega
          case rel => exact ⟨j + 1, _, by omega, by go_num, HB2.out, HM2.out, hr3⟩
        · have q0 : (y != d) = true := by simp [hyd]
          have hr3 : R = none := by rw [HR2.out]; simp [hyd]
          go_wp2_with (first | (at_lookup; refine HLk2.out _ _ _ _ _ _ _ _ rfl rfl rfl HM.out rfl ?_) | fail)
          go_ret2
          exact ⟨by first | rfl | (rw [hr3]; rfl), HB.out⟩
end Go.Proofs.YtpbfbejckhbijaaGreatDoor
