/- read: the ways in which operands fit, of a text that says them. -/
import Derived.Test.YtpbfbejckhbijaaGreatDoorPrE
import Derived.Maps.AppendAt
import Derived.Lib.OthersKept
namespace Go.Proofs.YtpbfbejckhbijaaGreatDoor
open Go.RowKit

/-- append of one element of any type, laid in a block of its own just before; where the new slice lies. -/
theorem wpList_app1a {T E : TypeId} {i0 : TypeInfo} {zv : Value} {sz by_ : Nat} (ht : Tryz.prog.underlying T = some (.slice E)) (hi : Tryz.prog.info? E = some i0) (hz : i0.zero = some zv) (hsz : i0.size = sz) (hby : i0.bytes = by_) (hzs : zv.cells.size = sz) (h0 : 0 < sz) (hb2 : by_ ≤ 100)
    {w0 : World} {ops : Array Oper} {rest : List Oper} {o : Oper} {a : Act} {Q : Exit → Act → World → Prop} (hgd : Region.wanted o (yielded ops a.tmps) = true) (s x : Operand)
    (ho : o.op = .call { callee := .builtin .append, args := #[s, x], argTypes := #[T, T] }) (B : Nat) (v : Value) (n : Nat) (xs : List Value) (hs : a.eval s = v) (hown : w0.ownsRow B E sz v n xs)
    (news : List Value) (hn : news.length = sz) (h1 : ∀ u ∈ news, u.oneCell' = true) (hx : a.eval x = .slice (some ⟨w0.heap.size, 0, none⟩) 1 1) (hl : n + 1 ≤ 1000000) (hB : B ≤ w0.heap.size)
    (h : ∀ v' w', w'.ownsRow B E sz v' (n + 1) (xs ++ news) → (w0.alloc (.cells news.toArray E)).grownBy w' v.ownBlock → (v'.ownBlock = v.ownBlock ∨ v'.ownBlock = some (w0.heap.size + 1)) → wpList Tryz.prog ops Q rest (a.put o.dst v') w') : wpList Tryz.prog ops Q (o :: rest) a (w0.alloc (.cells news.toArray E)) := by
  refine Ru.wpList_met hgd fun K hK => ?_
  have hm := Nat.mul_le_mul (show n + 1 ≤ 1000000 from hl) hb2
  obtain ⟨v', w', hr, h2, h3, h4, h5⟩ := run_append_own_at (P := Tryz.prog) (w0.alloc (.cells news.toArray E)) B T o.type E i0 zv sz by_ ht hi hz hsz hby hzs h0 v n xs (hown.alloc _) ⟨w0.heap.size, 0, none⟩ 1 1 news (by omega) (fun j u hu => blk_cell (tab_new w0 _) (by simpa using hu)) h1 (by unfold maxLen; omega) (by omega) (by simp; omega)
  unfold Oper.wp execOp
  simp only [ho, resolve, invoke, builtin, Sem.run_bind, Sem.run_pure, Result.andThen_ok, List.map_toArray, List.map_cons, List.map_nil, hs, hx, hr]
  exact hK _ _ (h v' w' h2 h3 (by simpa using h5))

/-- What has been read: the ways that are whole, and the letters of the next one. -/
structure Rst where
  d : List (List Int × List Int)
  k : List Int
  r : List Int
def rdStep (S : Rst) (c : Int) : Rst :=
  if c = 105 ∨ c = 107 then ⟨S.d, S.k ++ [c], S.r⟩ else if c = 48 ∨ c = 49 ∨ c = 50 ∨ c = 110 then ⟨S.d, S.k, S.r ++ [c]⟩ else if c = 59 then ⟨S.d ++ [(S.k, S.r)], [], []⟩ else S
def rdSt (bl : List Int) : Rst := bl.foldl rdStep ⟨[], [], []⟩
def rdF (bl : List Int) : List (List Int × List Int) := (rdSt bl).d ++ [((rdSt bl).k, (rdSt bl).r)]
theorem rdSt_next (bl : List Int) (j : Nat) (h : j < bl.length) : rdSt (bl.take (j + 1)) = rdStep (rdSt (bl.take j)) bl[j] := by
  unfold rdSt
  rw [List.take_add_one, List.getElem?_eq_getElem h, List.foldl_append]
  rfl
theorem rdStep_len (S : Rst) (c : Int) : (rdStep S c).d.length + (rdStep S c).k.length + (rdStep S c).r.length ≤ S.d.length + S.k.length + S.r.length + 1 := by
  unfold rdStep
  split
  · simp; omega
  · split
    · simp; omega
    · split
      · simp; omega
      · omega
theorem rdSt_len (bl : List Int) : ∀ j, (rdSt (bl.take j)).d.length + (rdSt (bl.take j)).k.length + (rdSt (bl.take j)).r.length ≤ j
  | 0 => by simp [rdSt]
  | j + 1 => by
    by_cases h : j < bl.length
    · rw [rdSt_next bl j h]
      have h1 := rdStep_len (rdSt (bl.take j)) bl[j]
      have h2 := rdSt_len bl j
      omega
    · have h2 := rdSt_len bl j
      rw [List.take_of_length_le (by omega)] at h2
      rw [List.take_of_length_le (by omega)]
      omega
/-- The bytes of a text. -/
def bys12 (s : ByteArray) : List Int := s.data.toList.map fun b => (b.toNat : Int)
theorem bys12_len (s : ByteArray) : (bys12 s).length = s.size := by
  unfold bys12
  rw [List.length_map, Array.length_toList]
  rfl
theorem bys12_at (s : ByteArray) (i : Nat) (h : i < s.size) : (bys12 s)[i]'(by rw [bys12_len]; exact h) = ((s[i]'h).toNat : Int) := by
  unfold bys12
  rw [List.getElem_map]
  rfl

/-! Rows of runes. -/
def RwR (W : World) (b : Nat) (v : Value) (l : List Int) : Prop := W.ownsRow b 21 1 v l.length (l.map fun z => .int .i32 z)
theorem own_blk {W : World} {b n sz : Nat} {E : TypeId} {v : Value} {xs : List Value} (h : W.ownsRow b E sz v n xs) {g : Nat} (hg : v.ownBlock = some g) : ∃ cur, W.heap[g]? = some (.cells cur E (0, 0)) ∧ b ≤ g ∧ g < W.heap.size := by
  rcases h.2 with ⟨rfl, _⟩ | ⟨g', cap, cur, rfl, hb, hh, _⟩
  · cases hg
  · cases hg
    exact ⟨cur, hh, hb, (Array.getElem?_eq_some_iff.1 hh).1⟩
theorem own_move {W W' : World} {b b' n sz : Nat} {E : TypeId} {v : Value} {xs : List Value} (h : W.ownsRow b E sz v n xs) (hk : ∀ g, v.ownBlock = some g → W'.heap[g]? = W.heap[g]? ∧ b' ≤ g) : W'.ownsRow b' E sz v n xs := by
  refine ⟨h.1, ?_⟩
  rcases h.2 with hn | ⟨g, cap, cur, rfl, hb, hh, r⟩
  · exact .inl hn
  · obtain ⟨h1, h2⟩ := hk g rfl
    exact .inr ⟨g, cap, cur, rfl, h2, h1.trans hh, r⟩
theorem own_form {W : World} {b n sz : Nat} {E : TypeId} {v : Value} {xs : List Value} (h : W.ownsRow b E sz v n xs) : ∃ a c, v = .slice a n c := by
  rcases h.2 with ⟨rfl, rfl⟩ | ⟨g', cap, cur, rfl, hb, hh, _⟩
  · exact ⟨_, _, rfl⟩
  · exact ⟨_, _, rfl⟩
theorem own_one {W : World} {b n sz : Nat} {E : TypeId} {v : Value} {xs : List Value} (h : W.ownsRow b E sz v n xs) : v.oneCell' = true := by
  obtain ⟨a, c, rfl⟩ := own_form h
  rfl
def RwB (W : World) (b : Nat) (v : Value) (l : List Int) : Prop := RwR W 0 v l ∧ ∀ g, v.ownBlock = some g → g < b
def flat12 (vals : List (Value × Value)) : List Value := vals.flatMap fun p => [p.1, p.2]
structure RdS (w : World) (gb : Nat) (S : Rst) (vk vr vl : Value) (b : Nat) (vals : List (Value × Value)) (W : World) : Prop where
  bel : Below gb w W
  hb : gb + 2 ≤ b
  hbs : b ≤ W.heap.size
  box : W.heap[gb]? = some (.cells #[vk, vr] 72 (0, 0))
  k : RwR W b vk S.k
  r : RwR W b vr S.r
  ne : ∀ g, vk.ownBlock = some g → vr.ownBlock = some g → False
  l : W.ownsRow (gb + 2) 72 2 vl S.d.length (flat12 vals)
  len : vals.length = S.d.length
  done : ∀ i (h1 : i < vals.length) (h2 : i < S.d.length), RwB W b (vals[i]).1 (S.d[i]).1 ∧ RwB W b (vals[i]).2 (S.d[i]).2
theorem RdS.c0 {w W : World} {gb b : Nat} {S : Rst} {vk vr vl : Value} {vals : List (Value × Value)} (h : RdS w gb S vk vr vl b vals W) : W.cell? ⟨gb, 0, none⟩ = some vk := by simp [World.cell?, h.box]
theorem RdS.c1 {w W : World} {gb b : Nat} {S : Rst} {vk vr vl : Value} {vals : List (Value × Value)} (h : RdS w gb S vk vr vl b vals W) : W.cell? ⟨gb, 1, none⟩ = some vr := by simp [World.cell?, h.box]
theorem RdS.fr {w W : World} {gb b : Nat} {S : Rst} {vk vr vl : Value} {vals : List (Value × Value)} (h : RdS w gb S vk vr vl b vals W) (i : Nat) : W.frozen? ⟨gb, i, none⟩ = false := by simp [World.frozen?, h.box]
/-- All blocks stay but the box and one more: what is read stays. -/
theorem RdS.done_move {w W W' : World} {gb b b' : Nat} {S : Rst} {vk vr vl : Value} {vals : List (Value × Value)} (h : RdS w gb S vk vr vl b vals W) (hbb : b ≤ b') (hk : ∀ g cur, g < b → W.heap[g]? = some (.cells cur 21 (0, 0)) → W'.heap[g]? = W.heap[g]?) :
    ∀ i (h1 : i < vals.length) (h2 : i < S.d.length), RwB W' b' (vals[i]).1 (S.d[i]).1 ∧ RwB W' b' (vals[i]).2 (S.d[i]).2 := fun i h1 h2 => by
  have key : ∀ v l, RwB W b v l → RwB W' b' v l := fun v l hv =>
    ⟨own_move hv.1 fun g hg => by
      obtain ⟨cur, hc, _, _⟩ := own_blk hv.1 hg
      exact ⟨hk g cur (hv.2 g hg) hc, Nat.zero_le _⟩, fun g hg => Nat.lt_of_lt_of_le (hv.2 g hg) hbb⟩
  exact ⟨key _ _ (h.done i h1 h2).1, key _ _ (h.done i h1 h2).2⟩
theorem set_heap {W : World} {g i : Nat} {cur : Array Value} {E : TypeId} {fr : Nat × Nat} (v : Value) (h : W.heap[g]? = some (.cells cur E fr)) : (W.setCell ⟨g, i, none⟩ v).heap[g]? = some (.cells (cur.setIfInBounds i v) E fr) := by
  rw [setCell_eq_setRow W g i cur E fr v h]
  exact setRow_heap W g cur _ E fr h
theorem set_heap_other {W : World} {g i k : Nat} (v : Value) (h : k ≠ g) : (W.setCell ⟨g, i, none⟩ v).heap[k]? = W.heap[k]? := by
  have : g ≠ k := fun e => h e.symm
  simp [World.setCell, Array.getElem?_modify, this]
theorem RdS.app_k {w W W2 : World} {gb b : Nat} {S : Rst} {vk vr vl v' : Value} {vals : List (Value × Value)} {c : Int} (h : RdS w gb S vk vr vl b vals W)
    (hg : (W.alloc (.cells #[.int .i32 c] 21)).grownBy W2 vk.ownBlock) (ho : RwR W2 b v' (S.k ++ [c])) (hw : v'.ownBlock = vk.ownBlock ∨ v'.ownBlock = some (W.heap.size + 1)) :
    RdS w gb ⟨S.d, S.k ++ [c], S.r⟩ v' vr vl b vals (W2.setCell ⟨gb, 0, none⟩ v') ∧ W2.heap[gb]? = some (.cells #[vk, vr] 72 (0, 0)) ∧ (∀ x, x < b → x ≠ gb → (W2.setCell ⟨gb, 0, none⟩ v').heap[x]? = W.heap[x]?) := by
  have hbs := h.hbs
  have hhb := h.hb
  have hal : ∀ g, g < W.heap.size → (W.alloc (.cells #[.int .i32 c] 21)).heap[g]? = W.heap[g]? := fun g hgl => (bel1 W _).block g hgl
  have hsz : W.heap.size + 1 ≤ W2.heap.size := by have := hg.size; simpa using this
  have k1 : ∀ g, g < W.heap.size → vk.ownBlock ≠ some g → W2.heap[g]? = W.heap[g]? := fun g hgl hne => (hg.block g (by simp; omega) fun e => hne e.symm).trans (hal g hgl)
  have hvb : ∀ g, vk.ownBlock = some g → b ≤ g := fun g e => by obtain ⟨_, _, hb, _⟩ := own_blk h.k e; exact hb
  have k2 : ∀ g, g < W.heap.size → g ≠ gb → vk.ownBlock ≠ some g → (W2.setCell ⟨gb, 0, none⟩ v').heap[g]? = W.heap[g]? := fun g hgl hne h2 => (set_heap_other _ hne).trans (k1 g hgl h2)
  have k3 : ∀ x, x < b → x ≠ gb → (W2.setCell ⟨gb, 0, none⟩ v').heap[x]? = W.heap[x]? := fun x hx hne => k2 x (by omega) hne fun e => by have := hvb x e; omega
  have hbx : W2.heap[gb]? = some (.cells #[vk, vr] 72 (0, 0)) := (k1 gb (by omega) fun e => by have := hvb gb e; omega).trans h.box
  refine ⟨⟨?_, hhb, by simp; omega, ?_, ?_, ?_, ?_, ?_, h.len, ?_⟩, hbx, k3⟩
  · exact (((h.bel.alloc (by omega) _).grown hg (by simp; omega) fun j e => by have := hvb j e; omega)).setCell (p := ⟨gb, 0, none⟩) (Nat.le_refl _) _
  · rw [set_heap _ hbx]; rfl
  · exact own_move ho fun g e => by
      obtain ⟨_, _, hb2, _⟩ := own_blk ho e
      exact ⟨set_heap_other _ (by omega), hb2⟩
  · exact own_move h.r fun g e => by
      obtain ⟨_, _, hb2, hl2⟩ := own_blk h.r e
      exact ⟨k2 g hl2 (by omega) fun e2 => h.ne g e2 e, hb2⟩
  · intro g e1 e2
    rcases hw with hw | hw
    · exact h.ne g (hw ▸ e1) e2
    · obtain ⟨_, _, _, hl2⟩ := own_blk h.r e2
      rw [hw] at e1
      cases e1
      omega
  · exact own_move h.l fun g e => by
      obtain ⟨cur, hc, hb2, hl2⟩ := own_blk h.l e
      refine ⟨k2 g hl2 (by omega) fun e2 => ?_, hb2⟩
      obtain ⟨cur2, hc2, _, _⟩ := own_blk h.k e2
      rw [hc] at hc2
      cases hc2
  · refine h.done_move (Nat.le_refl _) fun g cur hgb hc => ?_
    by_cases e : g = gb
    · subst e
      rw [h.box] at hc
      cases hc
    · exact k3 g hgb e
theorem RdS.app_r {w W W2 : World} {gb b : Nat} {S : Rst} {vk vr vl v' : Value} {vals : List (Value × Value)} {c : Int} (h : RdS w gb S vk vr vl b vals W)
    (hg : (W.alloc (.cells #[.int .i32 c] 21)).grownBy W2 vr.ownBlock) (ho : RwR W2 b v' (S.r ++ [c])) (hw : v'.ownBlock = vr.ownBlock ∨ v'.ownBlock = some (W.heap.size + 1)) :
    RdS w gb ⟨S.d, S.k, S.r ++ [c]⟩ vk v' vl b vals (W2.setCell ⟨gb, 1, none⟩ v') ∧ W2.heap[gb]? = some (.cells #[vk, vr] 72 (0, 0)) ∧ (∀ x, x < b → x ≠ gb → (W2.setCell ⟨gb, 1, none⟩ v').heap[x]? = W.heap[x]?) := by
  have hbs := h.hbs
  have hhb := h.hb
  have hal : ∀ g, g < W.heap.size → (W.alloc (.cells #[.int .i32 c] 21)).heap[g]? = W.heap[g]? := fun g hgl => (bel1 W _).block g hgl
  have hsz : W.heap.size + 1 ≤ W2.heap.size := by have := hg.size; simpa using this
  have k1 : ∀ g, g < W.heap.size → vr.ownBlock ≠ some g → W2.heap[g]? = W.heap[g]? := fun g hgl hne => (hg.block g (by simp; omega) fun e => hne e.symm).trans (hal g hgl)
  have hvb : ∀ g, vr.ownBlock = some g → b ≤ g := fun g e => by obtain ⟨_, _, hb, _⟩ := own_blk h.r e; exact hb
  have k2 : ∀ g, g < W.heap.size → g ≠ gb → vr.ownBlock ≠ some g → (W2.setCell ⟨gb, 1, none⟩ v').heap[g]? = W.heap[g]? := fun g hgl hne h2 => (set_heap_other _ hne).trans (k1 g hgl h2)
  have k3 : ∀ x, x < b → x ≠ gb → (W2.setCell ⟨gb, 1, none⟩ v').heap[x]? = W.heap[x]? := fun x hx hne => k2 x (by omega) hne fun e => by have := hvb x e; omega
  have hbx : W2.heap[gb]? = some (.cells #[vk, vr] 72 (0, 0)) := (k1 gb (by omega) fun e => by have := hvb gb e; omega).trans h.box
  refine ⟨⟨?_, hhb, by simp; omega, ?_, ?_, ?_, ?_, ?_, h.len, ?_⟩, hbx, k3⟩
  · exact (((h.bel.alloc (by omega) _).grown hg (by simp; omega) fun j e => by have := hvb j e; omega)).setCell (p := ⟨gb, 1, none⟩) (Nat.le_refl _) _
  · rw [set_heap _ hbx]; rfl
  · exact own_move h.k fun g e => by
      obtain ⟨_, _, hb2, hl2⟩ := own_blk h.k e
      exact ⟨k2 g hl2 (by omega) fun e2 => h.ne g e e2, hb2⟩
  · exact own_move ho fun g e => by
      obtain ⟨_, _, hb2, _⟩ := own_blk ho e
      exact ⟨set_heap_other _ (by omega), hb2⟩
  · intro g e1 e2
    rcases hw with hw | hw
    · exact h.ne g e1 (hw ▸ e2)
    · obtain ⟨_, _, _, hl2⟩ := own_blk h.k e1
      rw [hw] at e2
      cases e2
      omega
  · exact own_move h.l fun g e => by
      obtain ⟨cur, hc, hb2, hl2⟩ := own_blk h.l e
      refine ⟨k2 g hl2 (by omega) fun e2 => ?_, hb2⟩
      obtain ⟨cur2, hc2, _, _⟩ := own_blk h.r e2
      rw [hc] at hc2
      cases hc2
  · refine h.done_move (Nat.le_refl _) fun g cur hgb hc => ?_
    by_cases e : g = gb
    · subst e
      rw [h.box] at hc
      cases hc
    · exact k3 g hgb e
end Go.Proofs.YtpbfbejckhbijaaGreatDoor
