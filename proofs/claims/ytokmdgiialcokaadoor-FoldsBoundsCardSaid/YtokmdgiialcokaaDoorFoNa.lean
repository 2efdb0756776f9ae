/- joined; folds of vectors. -/
import Derived.Test.YtokmdgiialcokaaDoorFoL
import Derived.Test.YtokmdgiialcokaaDoorMvY
import Derived.Test.YtokmdgiialcokaaDoorMvPp
import Derived.Deep.DeepCutAuto
namespace Go.Proofs.YtokmdgiialcokaaDoor
open Go.RowKit

theorem isG.good {A : Ar} (h : isG A) : Good A := ck_good h.c
/-- Cat of two vectors. -/
theorem cat_vec {A B : Ar} (hA : isG A) (hr : A.r = 1) (he : ctE A B = 0) : ctV A B = vecA 1 (A.z ++ B.z) ∧ isG (ctV A B) ∧ (ctV A B).r = 1 ∧ (ctV A B).z = A.z ++ B.z := by
  have i := cat_is he
  have hrB : B.r = 1 := i.ok.same.trans hr
  have eA := ar_vec i.ok.gA hr
  have eB := ar_vec i.ok.gB hrB
  obtain ⟨a1, a2, _, _⟩ := rw_vec i.ok.gA hr
  obtain ⟨b1, b2, _, _⟩ := rw_vec i.ok.gB hrB
  have hl : A.z.length + B.z.length ≤ 400 := by have := i.many; rw [a1, a2, b2, Nat.one_mul] at this; exact this
  have gA : Good (vecA A.k A.z) := by rw [eA]; exact i.ok.gA
  have gB : Good (vecA A.k B.z) := by rw [← i.ok.kind, eB]; exact i.ok.gB
  have hC : ctV A B = vecA A.k (A.z ++ B.z) := by
    obtain ⟨_, c2⟩ := ct_vecs gA gB hl
    rw [← c2, eA, ← i.ok.kind, eB]
  have hC1 : ctV A B = vecA 1 (A.z ++ B.z) := by rw [hC, hA.k]
  have hz : (ctV A B).z = A.z ++ B.z := by rw [hC]; rfl
  refine ⟨hC1, ⟨by have := i.len; omega, good_ck i.good, by rw [hC1]; rfl, .inl (by rw [hC1]; rfl)⟩, by rw [hC1]; rfl, hz⟩
theorem sm_vec {A : Ar} (h : isG A) (hr : A.r = 1) : smE A = (sm1 A.z).2 ∧ (smE A = 0 → okS 0 A.z = true ∧ smV A = ⟨1, 0, 0, 0, [A.z.sum]⟩) := by
  have e1 : smE A = (sm1 A.z).2 := by
    rw [h.sm, rwL_vec h.c hr]
    show (if (sm1 A.z).2 = 0 then (0 : Int) else (sm1 A.z).2) = _
    split
    · next e => exact e.symm
    · rfl
  refine ⟨e1, fun h0 => ?_⟩
  have ho : okS 0 A.z = true := by
    by_cases e : okS 0 A.z = true
    · exact e
    · rw [e1] at h0; unfold sm1 at h0; rw [if_neg e] at h0; cases h0
  refine ⟨ho, ?_⟩
  unfold smV
  rw [orNo_yes h0, rwL_vec h.c hr, List.map_cons, sm1_yes ho]
  unfold ofR
  rw [if_pos hr]
  rfl
theorem en_vec {A : Ar} (h : isG A) (hr : A.r = 1) (p : Int) : enE A = (if A.z.length = 0 then 13 else 0) ∧ (enE A = 0 → A.z ≠ [] ∧ enV p A = ⟨1, 0, 0, 0, [en1 p A.z]⟩) := by
  obtain ⟨q1, q2, _, _⟩ := rw_vec h.good hr
  have e1 : enE A = (if A.z.length = 0 then 13 else 0) := by
    rw [h.en, q1, q2]
    by_cases e : A.z.length = 0
    · rw [if_pos ⟨by omega, e⟩, if_pos e]
    · rw [if_neg (fun x => e x.2), if_neg e]
  refine ⟨e1, fun h0 => ?_⟩
  have hne : A.z ≠ [] := fun e => by rw [e1, e] at h0; exact absurd h0 (by decide)
  refine ⟨hne, ?_⟩
  unfold enV
  rw [orNo_yes h0, rwL_vec h.c hr]
  unfold ofR
  rw [if_pos hr]
  rfl
theorem cnt_vec {A : Ar} (h : isG A) (hr : A.r = 1) : cntE A = 0 ∧ cntV A = ⟨1, 0, 0, 0, [(A.z.length : Int)]⟩ := by
  obtain ⟨q1, q2, _, _⟩ := rw_vec h.good hr
  have e1 : cntE A = 0 := h.fa true rfl
  refine ⟨e1, ?_⟩
  unfold cntV
  rw [orNo_yes e1, q1, q2]
  unfold ofR
  rw [if_pos hr]
  rfl
theorem mm_assoc (p x y z : Int) : mm p (mm p x y) z = mm p x (mm p y z) := by unfold mm; split <;> omega
theorem foldl_mm (p x y : Int) : ∀ l : List Int, l.foldl (mm p) (mm p x y) = mm p x (l.foldl (mm p) y)
  | [] => rfl
  | c :: l => by show l.foldl (mm p) (mm p (mm p x y) c) = mm p x (l.foldl (mm p) (mm p y c)); rw [mm_assoc, foldl_mm]
theorem en1_app {p : Int} {x y : List Int} (hx : x ≠ []) (hy : y ≠ []) : en1 p (x ++ y) = mm p (en1 p x) (en1 p y) := by
  cases x with
  | nil => exact absurd rfl hx
  | cons a x =>
    cases y with
    | nil => exact absurd rfl hy
    | cons b y =>
      show (x ++ b :: y).foldl (mm p) a = mm p (x.foldl (mm p) a) (y.foldl (mm p) b)
      rw [List.foldl_append]
      show y.foldl (mm p) (mm p (x.foldl (mm p) a) b) = _
      rw [foldl_mm]
theorem mm_inr {p x y : Int} (hx : Sc.inr x = true) (hy : Sc.inr y = true) : Sc.inr (mm p x y) = true := by
  have h1 := Sc.inr_iff.1 hx
  have h2 := Sc.inr_iff.1 hy
  rw [Sc.inr_iff]
  unfold mm
  split <;> omega
theorem fold_inr {p : Int} : ∀ {l : List Int} {b : Int}, Sc.inr b = true → in64 l → Sc.inr (l.foldl (mm p) b) = true
  | [], _, hb, _ => hb
  | c :: l, b, hb, h => fold_inr (l := l) (mm_inr hb (h c (by simp))) fun x hx => h x (by simp [hx])
theorem en1_inr {p : Int} {l : List Int} (h : in64 l) : Sc.inr (en1 p l) = true := by
  cases l with
  | nil => exact inr0
  | cons c l => exact fold_inr (h c (by simp)) fun x hx => h x (List.mem_cons_of_mem _ hx)
theorem sum_inr {l : List Int} (h : okS 0 l = true) : Sc.inr l.sum = true := by
  have := okS_inr (row := l) (t := l.length) (Nat.le_refl _) (by rw [List.take_length]; exact h)
  rwa [List.take_length] at this
theorem add_or {a b c : Int} (h : c = a + b) : (Sc.twoV 15 a b).2 ≠ 0 ∨ (Sc.twoV 15 a b).1 = c := by
  subst h
  by_cases e : Sc.inr (a + b) = true
  · right; rw [Sc.t15 rfl e]
  · left; rw [Sc.t15o (by simpa using e)]; decide
/-- What joined is asked of. -/
def JoP (p e f g : Int) (x y z : List Int) : Prop := e = 0 → f = 0 → g = 0 → ∃ a b c, x = [a] ∧ y = [b] ∧ z = [c] ∧ Sc.inr a = true ∧ Sc.inr b = true ∧ ((Sc.twoV p a b).2 ≠ 0 ∨ (Sc.twoV p a b).1 = c)

set_option maxRecDepth 100000 in
set_option maxHeartbeats 16000000 in
theorem joined_any (p e f g : Int) (A B D : Ar) (v1 v2 v3 : Value) (w : World) (hw : Ru.Lay w) (hv1 : RdI w.heap.size w v1 A.z) (hv2 : RdI w.heap.size w v2 B.z) (hv3 : RdI w.heap.size w v3 D.z) (hn1 : Ru.NilC v1) (hn2 : Ru.NilC v2) (hn3 : Ru.NilC v3) (hj : JoP p e f g A.z B.z D.z) :
    Calls Tryd.prog 40 #[.int .i64 p, A5 A.k A.r A.a A.b v1, .int .i64 e, A5 B.k B.r B.a B.b v2, .int .i64 f, A5 D.k D.r D.a D.b v3, .int .i64 g] w fun e w' => e = .returned (.bool true) ∧ Below w.heap.size w w' := by
  have HK : Hid (KVar w [⟨w.heap.size + 1 + 1, D, v3⟩, ⟨w.heap.size + 1, B, v2⟩, ⟨w.heap.size, A, v1⟩] (((w.alloc (.cells #[.int .i64 A.k, .int .i64 A.r, .int .i64 A.a, .int .i64 A.b, v1] 25)).alloc (.cells #[.int .i64 B.k, .int .i64 B.r, .int .i64 B.a, .int .i64 B.b, v2] 25)).alloc (.cells #[.int .i64 D.k, .int .i64 D.r, .int .i64 D.a, .int .i64 D.b, v3] 25))) := by
    have h := (((KVar.start w hw).arg A hv1 hn1).arg B hv2 hn2).arg D hv3 hn3
    have e1 : (w.alloc (.cells #[.int .i64 A.k, .int .i64 A.r, .int .i64 A.a, .int .i64 A.b, v1] 25)).heap.size = w.heap.size + 1 := by simp
    have e2 : ((w.alloc (.cells #[.int .i64 A.k, .int .i64 A.r, .int .i64 A.a, .int .i64 A.b, v1] 25)).alloc (.cells #[.int .i64 B.k, .int .i64 B.r, .int .i64 B.a, .int .i64 B.b, v2] 25)).heap.size = w.heap.size + 1 + 1 := by simp
    rw [e2, e1] at h
    exact h
  obtain ⟨q, c, rfl, _, _, _⟩ := hv1
  obtain ⟨q', c', rfl, _, _, _⟩ := hv2
  obtain ⟨q2, c2, rfl, _, _, _⟩ := hv3
  clear hw hn1 hn2 hn3
  have x0 := (HK.out.a _ (.tail _ (.tail _ (.head _)))).c0
  have x1 := (HK.out.a _ (.tail _ (.tail _ (.head _)))).c1
  have x2 := (HK.out.a _ (.tail _ (.tail _ (.head _)))).c2
  have x3 := (HK.out.a _ (.tail _ (.tail _ (.head _)))).c3
  have x4 := (HK.out.a _ (.tail _ (.tail _ (.head _)))).c4
  have y0 := (HK.out.a _ (.tail _ (.head _))).c0
  have y1 := (HK.out.a _ (.tail _ (.head _))).c1
  have y2 := (HK.out.a _ (.tail _ (.head _))).c2
  have y3 := (HK.out.a _ (.tail _ (.head _))).c3
  have y4 := (HK.out.a _ (.tail _ (.head _))).c4
  have z0 := (HK.out.a _ (.head _)).c0
  have z1 := (HK.out.a _ (.head _)).c1
  have z2 := (HK.out.a _ (.head _)).c2
  have z3 := (HK.out.a _ (.head _)).c3
  have z4 := (HK.out.a _ (.head _)).c4
  by_cases he : e ≠ 0
  · have k1 : (e != 0) = true := by simpa using he
    clear he hj
    go_enter Tryd.func40, Tryd.ntmps40
    go_wp2_with fail
    go_ret
    exact ⟨rfl, HK.out.bel⟩
  have he0 : e = 0 := by omega
  subst he0
  by_cases hf : f ≠ 0
  · have k1 : (f != 0) = true := by simpa using hf
    clear he hf hj
    go_enter Tryd.func40, Tryd.ntmps40
    go_wp2_with fail
    go_ret
    exact ⟨rfl, HK.out.bel⟩
  have hf0 : f = 0 := by omega
  subst hf0
  by_cases hg : g ≠ 0
  · have k1 : (g != 0) = true := by simpa using hg
    clear he hf hg hj
    go_enter Tryd.func40, Tryd.ntmps40
    go_wp2_with fail
    go_ret
    exact ⟨rfl, HK.out.bel⟩
  have hg0 : g = 0 := by omega
  subst hg0
  obtain ⟨a, b, d, hx, hy, hz, ha, hb, hor⟩ := hj rfl rfl rfl
  clear he hf hg
  obtain ⟨Ak, Ar, Aa, Ab, Az⟩ := A
  obtain ⟨Bk, Br, Ba, Bb, Bz⟩ := B
  obtain ⟨Dk, Dr, Da, Db, Dz⟩ := D
  simp only at hx hy hz
  subst hx hy hz
  have hc1 := (HK.out.r _ (.tail _ (.tail _ (.head _)))).cells (by simp)
  have hc2 := (HK.out.r _ (.tail _ (.head _))).cells (by simp)
  have hc3 := (HK.out.r _ (.head _)).cells (by simp)
  obtain ⟨b1, o1, rfl, hb1, hc1⟩ := hc1
  obtain ⟨b2, o2, rfl, hb2, hc2⟩ := hc2
  obtain ⟨b3, o3, rfl, hb3, hc3⟩ := hc3
  have hd1 := hc1 0 (by simp)
  have hd2 := hc2 0 (by simp)
  have hd3 := hc3 0 (by simp)
  rw [Nat.add_zero] at hd1 hd2 hd3
  clear hc1 hc2 hc3
  have HT : Hid (∀ W, Calls Tryd.prog 78 #[.int .i64 p, .int .i64 a, .int .i64 b] W fun e w' => e = .returned (.tuple #[.int .i64 (Sc.twoV p a b).1, .int .i64 (Sc.twoV p a b).2]) ∧ Below W.heap.size W w') := fun W => Sc.rtwo_any p a b W (inr_lo ha) (inr_hi ha) (inr_lo hb) (inr_hi hb)
  generalize (Sc.twoV p a b).1 = r1 at HT hor
  generalize (Sc.twoV p a b).2 = r2 at HT hor
  simp only at *
  go_enter Tryd.func40, Tryd.ntmps40
  go_wp2_with fail
  have hNum : ∀ W, KVar w [⟨(w.heap.size + 1 + 1), ⟨Dk, Dr, Da, Db, [d]⟩, (.slice (some ⟨b3, o3, none⟩) 1 c2)⟩, ⟨(w.heap.size + 1), ⟨Bk, Br, Ba, Bb, [b]⟩, (.slice (some ⟨b2, o2, none⟩) 1 c')⟩, ⟨w.heap.size, ⟨Ak, Ar, Aa, Ab, [a]⟩, (.slice (some ⟨b1, o1, none⟩) 1 c)⟩] W → W.cell? ⟨b1, o1, none⟩ = some (.int .i64 a) ∧ W.cell? ⟨b2, o2, none⟩ = some (.int .i64 b) ∧ W.cell? ⟨b3, o3, none⟩ = some (.int .i64 d) := fun W h => by
    refine ⟨?_, ?_, ?_⟩
    · obtain ⟨bb, oo, e1, _, hc⟩ := (h.r _ (.tail _ (.tail _ (.head _)))).cells (by simp)
      injection e1 with e1
      injection e1 with e1 e2
      subst e1 e2
      have := hc 0 (by simp)
      rw [Nat.add_zero] at this
      exact this
    · obtain ⟨bb, oo, e1, _, hc⟩ := (h.r _ (.tail _ (.head _))).cells (by simp)
      injection e1 with e1
      injection e1 with e1 e2
      subst e1 e2
      have := hc 0 (by simp)
      rw [Nat.add_zero] at this
      exact this
    · obtain ⟨bb, oo, e1, _, hc⟩ := (h.r _ (.head _)).cells (by simp)
      injection e1 with e1
      injection e1 with e1 e2
      subst e1 e2
      have := hc 0 (by simp)
      rw [Nat.add_zero] at this
      exact this
  have HAll : ∀ W, KVar w [⟨(w.heap.size + 1 + 1), ⟨Dk, Dr, Da, Db, [d]⟩, (.slice (some ⟨b3, o3, none⟩) 1 c2)⟩, ⟨(w.heap.size + 1), ⟨Bk, Br, Ba, Bb, [b]⟩, (.slice (some ⟨b2, o2, none⟩) 1 c')⟩, ⟨w.heap.size, ⟨Ak, Ar, Aa, Ab, [a]⟩, (.slice (some ⟨b1, o1, none⟩) 1 c)⟩] W → (fun W => KVar w [⟨(w.heap.size + 1 + 1), ⟨Dk, Dr, Da, Db, [d]⟩, (.slice (some ⟨b3, o3, none⟩) 1 c2)⟩, ⟨(w.heap.size + 1), ⟨Bk, Br, Ba, Bb, [b]⟩, (.slice (some ⟨b2, o2, none⟩) 1 c')⟩, ⟨w.heap.size, ⟨Ak, Ar, Aa, Ab, [a]⟩, (.slice (some ⟨b1, o1, none⟩) 1 c)⟩] W ∧ W.cell? ⟨w.heap.size, 0, none⟩ = some (.int .i64 Ak) ∧ W.cell? ⟨w.heap.size, 1, none⟩ = some (.int .i64 Ar) ∧ W.cell? ⟨w.heap.size, 2, none⟩ = some (.int .i64 Aa) ∧ W.cell? ⟨w.heap.size, 3, none⟩ = some (.int .i64 Ab) ∧ W.cell? ⟨w.heap.size, 4, none⟩ = some (.slice (some ⟨b1, o1, none⟩) 1 c) ∧ W.cell? ⟨(w.heap.size + 1), 0, none⟩ = some (.int .i64 Bk) ∧ W.cell? ⟨(w.heap.size + 1), 1, none⟩ = some (.int .i64 Br) ∧ W.cell? ⟨(w.heap.size + 1), 2, none⟩ = some (.int .i64 Ba) ∧ W.cell? ⟨(w.heap.size + 1), 3, none⟩ = some (.int .i64 Bb) ∧ W.cell? ⟨(w.heap.size + 1), 4, none⟩ = some (.slice (some ⟨b2, o2, none⟩) 1 c') ∧ W.cell? ⟨(w.heap.size + 1 + 1), 0, none⟩ = some (.int .i64 Dk) ∧ W.cell? ⟨(w.heap.size + 1 + 1), 1, none⟩ = some (.int .i64 Dr) ∧ W.cell? ⟨(w.heap.size + 1 + 1), 2, none⟩ = some (.int .i64 Da) ∧ W.cell? ⟨(w.heap.size + 1 + 1), 3, none⟩ = some (.int .i64 Db) ∧ W.cell? ⟨(w.heap.size + 1 + 1), 4, none⟩ = some (.slice (some ⟨b3, o3, none⟩) 1 c2) ∧ W.cell? ⟨b1, o1, none⟩ = some (.int .i64 a) ∧ W.cell? ⟨b2, o2, none⟩ = some (.int .i64 b) ∧ W.cell? ⟨b3, o3, none⟩ = some (.int .i64 d)) W := fun W h => by
    obtain ⟨h4, h5, h6⟩ := hNum W h
    exact ⟨h, (h.a _ (.tail _ (.tail _ (.head _)))).c0, (h.a _ (.tail _ (.tail _ (.head _)))).c1, (h.a _ (.tail _ (.tail _ (.head _)))).c2, (h.a _ (.tail _ (.tail _ (.head _)))).c3, (h.a _ (.tail _ (.tail _ (.head _)))).c4, (h.a _ (.tail _ (.head _))).c0, (h.a _ (.tail _ (.head _))).c1, (h.a _ (.tail _ (.head _))).c2, (h.a _ (.tail _ (.head _))).c3, (h.a _ (.tail _ (.head _))).c4, (h.a _ (.head _)).c0, (h.a _ (.head _)).c1, (h.a _ (.head _)).c2, (h.a _ (.head _)).c3, (h.a _ (.head _)).c4, h4, h5, h6⟩
  clear hNum hd1 hd2 hd3 x0 x1 x2 x3 x4 y0 y1 y2 y3 y4 z0 z1 z2 z3 z4
  have hS := HK.out
  clear HK
  go_region_held3 (fun W => KVar w [⟨(w.heap.size + 1 + 1), ⟨Dk, Dr, Da, Db, [d]⟩, (.slice (some ⟨b3, o3, none⟩) 1 c2)⟩, ⟨(w.heap.size + 1), ⟨Bk, Br, Ba, Bb, [b]⟩, (.slice (some ⟨b2, o2, none⟩) 1 c')⟩, ⟨w.heap.size, ⟨Ak, Ar, Aa, Ab, [a]⟩, (.slice (some ⟨b1, o1, none⟩) 1 c)⟩] W ∧ W.cell? ⟨w.heap.size, 0, none⟩ = some (.int .i64 Ak) ∧ W.cell? ⟨w.heap.size, 1, none⟩ = some (.int .i64 Ar) ∧ W.cell? ⟨w.heap.size, 2, none⟩ = some (.int .i64 Aa) ∧ W.cell? ⟨w.heap.size, 3, none⟩ = some (.int .i64 Ab) ∧ W.cell? ⟨w.heap.size, 4, none⟩ = some (.slice (some ⟨b1, o1, none⟩) 1 c) ∧ W.cell? ⟨(w.heap.size + 1), 0, none⟩ = some (.int .i64 Bk) ∧ W.cell? ⟨(w.heap.size + 1), 1, none⟩ = some (.int .i64 Br) ∧ W.cell? ⟨(w.heap.size + 1), 2, none⟩ = some (.int .i64 Ba) ∧ W.cell? ⟨(w.heap.size + 1), 3, none⟩ = some (.int .i64 Bb) ∧ W.cell? ⟨(w.heap.size + 1), 4, none⟩ = some (.slice (some ⟨b2, o2, none⟩) 1 c') ∧ W.cell? ⟨(w.heap.size + 1 + 1), 0, none⟩ = some (.int .i64 Dk) ∧ W.cell? ⟨(w.heap.size + 1 + 1), 1, none⟩ = some (.int .i64 Dr) ∧ W.cell? ⟨(w.heap.size + 1 + 1), 2, none⟩ = some (.int .i64 Da) ∧ W.cell? ⟨(w.heap.size + 1 + 1), 3, none⟩ = some (.int .i64 Db) ∧ W.cell? ⟨(w.heap.size + 1 + 1), 4, none⟩ = some (.slice (some ⟨b3, o3, none⟩) 1 c2) ∧ W.cell? ⟨b1, o1, none⟩ = some (.int .i64 a) ∧ W.cell? ⟨b2, o2, none⟩ = some (.int .i64 b) ∧ W.cell? ⟨b3, o3, none⟩ = some (.int .i64 d))
    ((first | exact HAll _ ((by assumption : KVar _ _ _ ∧ _).1.next hbn) | exact HAll _ (by assumption : KVar _ _ _ ∧ _).1 | exact HAll _ (hS.next (Below.refl _ _).drew) | fail))
    (first
      | (go_at_call 78; (with_reducible refine (HT.out _).mono ?_); rintro e wn ⟨rfl, hbn⟩)
      | fail)
  all_goals
    have HB := Lib.hid (by assumption : KVar _ _ _ ∧ _).1.bel
    by_cases hr : r2 = 0
    · have k5 : (r2 != 0) = false := by simpa using hr
      have hrd : r1 = d := hor.resolve_left (fun x => x hr)
      subst hrd
      clear hr hor
      go_wp2_with fail
      go_ret
      exact ⟨rfl, HB.out⟩
    · have k5 : (r2 != 0) = true := by simpa using hr
      clear hr hor
      go_wp2_with fail
      go_ret
      exact ⟨rfl, HB.out⟩
end Go.Proofs.YtokmdgiialcokaaDoor
