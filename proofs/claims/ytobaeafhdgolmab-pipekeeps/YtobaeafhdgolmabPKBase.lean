/- What PipeKeeps stands on: what is written is read, in order. -/
import Derived.Test.YtobaeafhdgolmabPiped
import Derived.Test.YtobaeafhdgolmabPConcat
import Derived.Test.YtobaeafhdgolmabAt
import Derived.Test.YtobaeafhdgolmabOrdV
import Derived.Maps.AppendAt
namespace Go.Proofs.Ytobaeafhdgolmab
open Go.RowKit Go.Gs
set_option linter.unusedVariables false

/-- The bytes that are offered. -/
def offerP (B : List UInt8) (s n : Nat) : List UInt8 := (B.drop s).take (min B.length (s + n) - s)
theorem offer_len {B : List UInt8} {s n : Nat} (hs : s ≤ B.length) : (offerP B s n).length = min B.length (s + n) - s := by
  unfold offerP
  rw [List.length_take, List.length_drop]
  omega
theorem offer_step {B G pb : List UInt8} {s n q : Nat} (hs : s ≤ B.length) (h : G ++ pb = B.take s) (hq : q ≤ (offerP B s n).length) : G ++ (pb ++ (offerP B s n).take q) = B.take (s + q) := by
  rw [← List.append_assoc, h]
  unfold offerP at *
  rw [List.length_take, List.length_drop] at hq
  rw [List.take_take, List.take_add, Nat.min_eq_left (by omega)]
theorem pread_step {G pb T : List UInt8} {k : Nat} (h : G ++ pb = T) : (G ++ pb.take k) ++ pb.drop k = T := by
  rw [List.append_assoc, List.take_append_drop]
  exact h
theorem pck_lessP {n m : Nat} {room : Int} (h : pck n room false = 0) (hm : m ≤ n) : pck m room false = 0 := by
  obtain ⟨h1, h2, h3, _⟩ := pck_ok h
  exact pck_open (by omega) (by omega)
theorem pck_moreP {n m : Nat} {room : Int} (h : pck n room false = 0) : pck (n + pfit m n room) room false = 0 := by
  obtain ⟨h1, h2, h3, _⟩ := pck_ok h
  obtain ⟨h4, h5⟩ := pfit_sum (m := m) h2 h3
  exact pck_open (by omega) (by omega)
theorem readsGrownP {w w' : World} {ao : Option Addr} {n cap : Nat} {xs : List Value} {go : Option Nat} (h : Reads w (.slice ao n cap) n xs) (hg : w.grownBy w' go) (hf : n ≠ 0 → ∀ a, ao = some a → go ≠ some a.block) : Reads w' (.slice ao n cap) n xs := by
  obtain ⟨h1, ao', cap', e, h2, h3, h4⟩ := h
  injection e with e1 e2 e3
  subst e1 e3
  refine ⟨h1, _, _, rfl, h2, h3, fun hn => ?_⟩
  obtain ⟨b, o, rfl, hc⟩ := h4 hn
  refine ⟨b, o, rfl, fun j u hu => ?_⟩
  have hcj := hc j u hu
  have hlt : b < w.heap.size := World.block_lt_of_cell? w _ hcj
  have hne := hf hn _ rfl
  have hb : w'.heap[b]? = w.heap[b]? := hg.block b hlt (fun e => hne e.symm)
  rw [← hcj]
  unfold World.cell?
  simp only [hb]
/-- What the loop stands on. -/
structure KA (w : World) (K : Nat) (B : List UInt8) (room : Int) (s : Nat) (v : Value) (wr : World) (pb G : List UInt8) (ab : Option Addr) (cap : Nat) : Prop where
  box : wr.heap[K]? = some (.cells #[.slice ab pb.length cap, .int .i64 room, .bool false, .bool false] 42 (0, 0))
  rds : Reads wr (.slice ab pb.length cap) pb.length (pb.map U)
  nil : ab = none → cap = 0
  own : wr.ownsRow (K + 1) 5 1 v G.length (G.map U)
  eq : G ++ pb = B.take s
  le : s ≤ B.length
  chk : pck pb.length room false = 0
  bel : Below w.heap.size w wr
  base : w.heap.size ≤ K
  far : pb.length ≠ 0 → ∀ a, ab = some a → v.ownBlock ≠ some a.block
theorem KA.len {w : World} {K : Nat} {B : List UInt8} {room : Int} {s : Nat} {v : Value} {wr : World} {pb G : List UInt8} {ab : Option Addr} {cap : Nat} (h : KA w K B room s v wr pb G ab cap) : G.length + pb.length = s := by
  have := congrArg List.length h.eq
  rw [List.length_append, List.length_take] at this
  have := h.le
  omega
theorem KA.below {w : World} {K : Nat} {B : List UInt8} {room : Int} {s : Nat} {v : Value} {wr w' : World} {pb G : List UInt8} {ab : Option Addr} {cap : Nat} (h : KA w K B room s v wr pb G ab cap) (hb : Below wr.heap.size wr w') : KA w K B room s v w' pb G ab cap :=
  ⟨(hb.block _ (heap_ltP h.box)).trans h.box, Reads.below h.rds hb, h.nil, h.own.kept (row := none) ⟨hb.os, hb.tape, hb.output, hb.size, fun k hk _ => hb.block k hk⟩ (by cases hv : v.ownBlock <;> simp), h.eq, h.le, h.chk, h.bel.trans (hb.mono h.bel.size), h.base, h.far⟩
/-- What a written or read pipe in a box stands on. -/
def KW (wr wx : World) (kb : Nat) (aq : Option Addr) (cq : Nat) (room : Int) (pb : List UInt8) : Prop :=
  wx.heap[kb]? = some (.cells #[.slice aq pb.length cq, .int .i64 room, .bool false, .bool false] 42 (0, 0)) ∧ PB wr wx aq cq pb ∧ Below wr.heap.size wr wx ∧ wr.heap.size ≤ kb
theorem boxdP {w w' : World} {a b c d : Value} {t : TypeId} (h : Below (w.drew.alloc (.cells #[a, b, c, d] t)).heap.size (w.drew.alloc (.cells #[a, b, c, d] t)) w') : w'.heap[w.heap.size]? = some (.cells #[a, b, c, d] t (0, 0)) := box4P (w := w.drew) h
theorem below_cellP {W w' : World} (h : Below W.heap.size W w') : ∀ k i, k < W.heap.size → w'.cell? ⟨k, i, none⟩ = W.cell? ⟨k, i, none⟩ := fun k i hk => h.cell hk
theorem below_frzP {W w' : World} (h : Below W.heap.size W w') : ∀ k i, k < W.heap.size → w'.frozen? ⟨k, i, none⟩ = W.frozen? ⟨k, i, none⟩ := fun k i hk => by
  have := h.block k hk
  unfold World.frozen?
  simp only [this]
theorem drewP (w : World) : Below w.heap.size w w.drew := (Below.refl _ _).drew
theorem KW.late {wr w4 : World} {ar : Option Addr} {cr : Nat} {room : Int} {pb : List UInt8} (hp : PB wr.drew w4 ar cr pb) (hb : Below wr.drew.heap.size wr.drew w4) :
    KW wr (w4.alloc (.cells #[.slice ar pb.length cr, .int .i64 room, .bool false, .bool false] 42)) w4.heap.size ar cr room pb := by
  have hb' : Below wr.heap.size wr w4 := (drewP wr).trans hb
  exact ⟨heap_alloc_new w4 _, ⟨Reads.below hp.1 boxrP, hp.2.1, hp.2.2⟩, hb'.alloc hb'.size _, hb'.size⟩
theorem KW.early {wr w4 : World} {ar : Option Addr} {cr : Nat} {room : Int} {pb : List UInt8} {a b c d : Value} (hp : PB (wr.alloc (.cells #[a, b, c, d] 42)).drew w4 ar cr pb) (hb : Below (wr.alloc (.cells #[a, b, c, d] 42)).drew.heap.size (wr.alloc (.cells #[a, b, c, d] 42)).drew w4) :
    KW wr ((((w4.setCell ⟨wr.heap.size, 0, none⟩ (.slice ar pb.length cr)).setCell ⟨wr.heap.size, 1, none⟩ (.int .i64 room)).setCell ⟨wr.heap.size, 2, none⟩ (.bool false)).setCell ⟨wr.heap.size, 3, none⟩ (.bool false)) wr.heap.size ar cr room pb := by
  have hb' : Below (wr.alloc (.cells #[a, b, c, d] 42)).heap.size (wr.alloc (.cells #[a, b, c, d] 42)) w4 := (drewP _).trans hb
  have hs : (wr.alloc (.cells #[a, b, c, d] 42)).drew.heap.size = wr.heap.size + 1 := by
    have : ∀ W : World, W.drew.heap.size = W.heap.size := fun _ => rfl
    rw [this]
    simp
  have h2 : Below wr.heap.size wr w4 := boxrP.trans (hb'.mono (by simp))
  exact ⟨set4P (box4P hb'), PB.fromP (PB.set4P hp (by omega) _ _ _ _) (by omega), below_set4P h2 (Nat.le_refl _) _ _ _ _, Nat.le_refl _⟩
theorem own_setP {W : World} {K i : Nat} {e : TypeId} {v x : Value} {n : Nat} {xs : List Value} (h : W.ownsRow (K + 1) e 1 v n xs) : (W.setCell ⟨K, i, none⟩ x).ownsRow (K + 1) e 1 v n xs := by
  refine ⟨h.1, ?_⟩
  rcases h.2 with h0 | ⟨g, cap, cur, e1, e2, e3, e4⟩
  · exact .inl h0
  · refine .inr ⟨g, cap, cur, e1, e2, ?_, e4⟩
    rw [Below.heap_setCell _ _ _ _ (by simp; omega)]
    exact e3
theorem KA.store {w W : World} {K : Nat} {B : List UInt8} {room : Int} {s : Nat} {v o0 o1 o2 o3 : Value} {pb G : List UInt8} {ar : Option Addr} {cr : Nat} (hbase : w.heap.size ≤ K) (hbx : W.heap[K]? = some (.cells #[o0, o1, o2, o3] 42 (0, 0)))
    (hr : Reads W (.slice ar pb.length cr) pb.length (pb.map U)) (hnk : ∀ a, ar = some a → a.block ≠ K) (hnil : ar = none → cr = 0) (hown : W.ownsRow (K + 1) 5 1 v G.length (G.map U)) (heq : G ++ pb = B.take s) (hle : s ≤ B.length) (hck : pck pb.length room false = 0) (hbel : Below w.heap.size w W)
    (hfar : pb.length ≠ 0 → ∀ a, ar = some a → v.ownBlock ≠ some a.block) :
    KA w K B room s v ((((W.setCell ⟨K, 0, none⟩ (.slice ar pb.length cr)).setCell ⟨K, 1, none⟩ (.int .i64 room)).setCell ⟨K, 2, none⟩ (.bool false)).setCell ⟨K, 3, none⟩ (.bool false)) pb G ar cr :=
  ⟨set4P hbx, readsSetP (readsSetP (readsSetP (readsSetP hr hnk _) hnk _) hnk _) hnk _, hnil, own_setP (own_setP (own_setP (own_setP hown))), heq, hle, hck, below_set4P hbel hbase _ _ _ _, hbase, hfar⟩
theorem KA.even {w wr wx : World} {K : Nat} {B : List UInt8} {room : Int} {s q kb : Nat} {v : Value} {pb pb2 G : List UInt8} {ab aq : Option Addr} {cap cq : Nat} (h : KA w K B room s v wr pb G ab cap) (k : KW wr wx kb aq cq room pb2) (heq : G ++ pb2 = B.take (s + q)) (hle : s + q ≤ B.length) (hck : pck pb2.length room false = 0) :
    KA w K B room (s + q) v ((((wx.setCell ⟨K, 0, none⟩ (.slice aq pb2.length cq)).setCell ⟨K, 1, none⟩ (.int .i64 room)).setCell ⟨K, 2, none⟩ (.bool false)).setCell ⟨K, 3, none⟩ (.bool false)) pb2 G aq cq := by
  obtain ⟨k1, k2, k3, k4⟩ := k
  have h' := h.below k3
  have hK := heap_ltP h.box
  exact KA.store h.base h'.box k2.1 (fun a ha => by have := k2.2.1 a ha; omega) k2.2.2 h'.own heq hle hck h'.bel (fun _ a ha hg => by have h1 := (h.own.lt _ hg).2; have h2 := k2.2.1 a ha; omega)
theorem KA.odd {w wr W W5 : World} {K : Nat} {B : List UInt8} {room : Int} {s m : Nat} {v v5 : Value} {pb G : List UInt8} {ab ar : Option Addr} {cap cr : Nat} (h : KA w K B room s v wr pb G ab cap) (hb : Below wr.heap.size wr W) (hp : PB wr W ar cr (pb.drop m))
    (hown : W5.ownsRow (K + 1) 5 1 v5 (G ++ pb.take m).length ((G ++ pb.take m).map U)) (hg : W.grownBy W5 v.ownBlock) (hbl : v5.ownBlock = v.ownBlock ∨ v5.ownBlock = some W.heap.size) :
    W5.heap[K]? = some (.cells #[.slice ab pb.length cap, .int .i64 room, .bool false, .bool false] 42 (0, 0)) ∧ KA w K B room s v5 ((((W5.setCell ⟨K, 0, none⟩ (.slice ar (pb.drop m).length cr)).setCell ⟨K, 1, none⟩ (.int .i64 room)).setCell ⟨K, 2, none⟩ (.bool false)).setCell ⟨K, 3, none⟩ (.bool false)) (pb.drop m) (G ++ pb.take m) ar cr := by
  have h' := h.below hb
  have hK := heap_ltP h.box
  have hKW : K < W.heap.size := heap_ltP h'.box
  have hne : some K ≠ v.ownBlock := fun e => by have := (h.own.lt K e.symm).1; omega
  have hbx : W5.heap[K]? = some (.cells #[.slice ab pb.length cap, .int .i64 room, .bool false, .bool false] 42 (0, 0)) := (hg.block K hKW hne).trans h'.box
  have hgo : ∀ a, ar = some a → v.ownBlock ≠ some a.block := fun a ha e => by have h1 := (h.own.lt _ e).2; have h2 := hp.2.1 a ha; omega
  refine ⟨hbx, KA.store h.base hbx (readsGrownP hp.1 hg (fun _ => hgo)) (fun a ha => by have := hp.2.1 a ha; omega) hp.2.2 hown (pread_step h.eq) h.le (pck_lessP h.chk (by rw [List.length_drop]; omega)) ?_ ?_⟩
  · refine h'.bel.trans ⟨hg.os, hg.tape, hg.output, hg.size, fun k hk => hg.block k (by have := h'.bel.size; omega) (fun e => ?_)⟩
    have := (h.own.lt k e.symm).1
    have := h.base
    omega
  · intro hn a ha e
    rcases hbl with e1 | e1
    · exact hgo a ha (e1.symm.trans e)
    · rw [e1] at e
      injection e with e
      obtain ⟨hl, ao, cap', e', h3, h4, h5⟩ := hp.1
      obtain ⟨b, off, e4, hc⟩ := h5 hn
      injection e' with e1' _ _
      rw [← e1', ha] at e4
      injection e4 with e4
      subst e4
      have hpos : 0 < ((pb.drop m).map U).length := by rw [hl]; omega
      have := World.block_lt_of_cell? W _ (hc 0 _ (List.getElem?_eq_getElem hpos))
      simp only at this e
      omega
theorem reads_cellP {w : World} {ad : Addr} {n cap : Nat} {xs : List Value} (h : Reads w (.slice (some ad) n cap) n xs) {j : Nat} {u : Value} (hu : xs[j]? = some u) : w.cell? (ad.add j) = some u := by
  obtain ⟨hl, ao, cap', e, h3, h4, h5⟩ := h
  have hj := (List.getElem?_eq_some_iff.1 hu).1
  obtain ⟨b, off, e4, hc⟩ := h5 (by omega)
  injection e with e1 e2 e3
  rw [← e1] at e4
  injection e4 with e4
  subst e4
  rw [addP]
  exact hc j u hu
theorem step_append_ownP {P : Program} {ops : Array Oper} {o : Oper} {a : Act} {w : World} {K : Act → World → Prop} {Q : Exit → Act → World → Prop} {E : Prop}
    (hgd : o.guard = none) (s x : Operand) (t : TypeId) (ho : o.op = .call { callee := .builtin .append, args := #[s, x], argTypes := #[t, t] })
    (base : Nat) (e : TypeId) (i : TypeInfo) (z : Value) (size bytes : Nat) (ht : P.underlying t = some (.slice e)) (hi : P.info? e = some i) (hz : i.zero = some z)
    (hsize : i.size = size) (hby : i.bytes = bytes) (hzs : z.cells.size = size) (hsz : 0 < size)
    (v : Value) (n : Nat) (xs : List Value) (hs : a.eval s = v) (hown : w.ownsRow base e size v n xs)
    (ad : Addr) (m c : Nat) (news : List Value) (hx : a.eval x = .slice (some ad) m c) (hl : news.length = m * size) (hnews : ∀ j u, news[j]? = some u → w.cell? (ad.add j) = some u) (h1 : ∀ u ∈ news, u.oneCell' = true)
    (h63 : n + m ≤ maxLen) (hbytes : (n + m) * bytes ≤ 140737488355328) (hbase : base ≤ w.heap.size)
    (h : ∀ v' w', w'.ownsRow base e size v' (n + m) (xs ++ news) → w.grownBy w' v.ownBlock → (v' = .slice none 0 0 ↔ v = .slice none 0 0 ∧ m = 0) → (v'.ownBlock = v.ownBlock ∨ v'.ownBlock = some w.heap.size) → K (a.put o.dst v') w') :
    if Region.wanted o (yielded ops a.tmps) = true then Oper.wp P o a w K Q else E := by
  have hw : Region.wanted o (yielded ops a.tmps) = true := by simp [Region.wanted, hgd]
  rw [if_pos hw]
  obtain ⟨v', w', hr, h2, h3, h4, h5⟩ := run_append_own_at (P := P) w base t o.type e i z size bytes ht hi hz hsize hby hzs hsz v n xs hown ad m c news hl hnews h1 h63 hbytes hbase
  unfold Oper.wp execOp
  simp only [ho, resolve, invoke, builtin, Sem.run_bind, Sem.run_pure, Result.andThen_ok, List.map_toArray, List.map_cons, List.map_nil, hs, hx, hr]
  exact h v' w' h2 h3 h4 h5
theorem step_append_nilP {P : Program} {ops : Array Oper} {o : Oper} {a : Act} {w : World} {K : Act → World → Prop} {Q : Exit → Act → World → Prop} {E : Prop}
    (hgd : o.guard = none) (s x : Operand) (t : TypeId) (ho : o.op = .call { callee := .builtin .append, args := #[s, x], argTypes := #[t, t] })
    (base : Nat) (e : TypeId) (i : TypeInfo) (size c : Nat) (ht : P.underlying t = some (.slice e)) (hi : P.info? e = some i)
    (v : Value) (n : Nat) (xs : List Value) (hs : a.eval s = v) (hown : w.ownsRow base e size v n xs) (hx : a.eval x = .slice none 0 c) (h : K (a.put o.dst v) w) :
    if Region.wanted o (yielded ops a.tmps) = true then Oper.wp P o a w K Q else E := by
  have hw : Region.wanted o (yielded ops a.tmps) = true := by simp [Region.wanted, hgd]
  rw [if_pos hw]
  have hr := run_append_nilP (P := P) (w := w) base t o.type e i size c ht hi v n xs hown
  unfold Oper.wp execOp
  simp only [ho, resolve, invoke, builtin, Sem.run_bind, Sem.run_pure, Result.andThen_ok, List.map_toArray, List.map_cons, List.map_nil, hs, hx, hr]
  exact h
theorem pwrite_goodP {pb cs : List UInt8} {room : Int} (h : pck pb.length room false = 0) : pwrite ⟨pb, room, false, false⟩ cs = (⟨pb ++ cs.take (pfit cs.length pb.length room), room, false, false⟩, pfit cs.length pb.length room, 0) := by
  unfold pwrite
  rw [if_neg (fun e => e h), if_neg (by simp), if_neg (by simp)]
theorem pread_goodP {pb : List UInt8} {room : Int} {n : Nat} (h : pck pb.length room false = 0) (hn : n ≤ 4000) : pread ⟨pb, room, false, false⟩ (n : Int) = (⟨pb.drop (min n pb.length), room, false, false⟩, pb.take (min n pb.length), 0) := by
  unfold pread
  rw [if_neg (fun e => e h), if_neg (by omega), Int.toNat_natCast]
/-- The bytes that are offered, as a part of what can be read. -/
theorem offer_reads {w : World} {a : Addr} {NB cap s n : Nat} {B : List UInt8} (h : Reads w (.slice (some a) NB cap) NB (B.map U)) (hB : NB = B.length) (hs : s ≤ NB) : Reads w (.slice (some (a.add s)) (min NB (s + n) - s) (cap - s)) (min NB (s + n) - s) ((offerP B s n).map U) := by
  have h1 := reads_dropAnyP h hs
  have h2 := reads_takeP (k := min NB (s + n) - s) h1 (by omega)
  unfold offerP
  rw [← hB]
  exact h2
theorem offer_none {w : World} {ao : Option Addr} {NB cap s n k : Nat} {B : List UInt8} (hB : NB = B.length) (hs : NB ≤ s) (hk : k = 0) (hc : cap ≤ 9223372036854775807) : Reads w (.slice ao k cap) k ((offerP B s n).map U) := by
  have hl : offerP B s n = [] := by
    unfold offerP
    rw [List.drop_of_length_le (by omega)]
    simp
  rw [hl]
  exact reads_noneP hk rfl (by omega) hc
theorem nil_someP {w : World} {ao : Option Addr} {n cap : Nat} {bs : List UInt8} (h : Reads w (.slice ao n cap) n (bs.map U)) (hn : n ≠ 0) : ao = none → cap = 0 := by
  intro e
  obtain ⟨_, ao', cap', e', _, _, h5⟩ := h
  injection e' with e1 e2 e3
  obtain ⟨b, off, e4, _⟩ := h5 hn
  rw [← e1, e] at e4
  cases e4
theorem grown_selfP (W : World) (go : Option Nat) : W.grownBy W go := ⟨rfl, rfl, rfl, Nat.le_refl _, fun _ _ _ => rfl⟩
theorem keeps_concat {w W : World} {K : Nat} {B : List UInt8} {room : Int} {s cv : Nat} {av : Option Addr} {pb G : List UInt8} {ab : Option Addr} {cap : Nat} (h : KA w K B room s (.slice av G.length cv) W pb G ab cap) (hs : B.length ≤ 200) :
    Calls Try.prog 21 #[.slice (some ⟨W.heap.size, 0, none⟩) 2 2] (W.alloc (.cells #[.slice av G.length cv, .slice ab pb.length cap] 40)) fun e w' => ∃ ra rc, e = .returned (.slice ra (G ++ pb).length rc) ∧ w'.ownsRow (W.heap.size + 1) 5 1 (.slice ra (G ++ pb).length rc) (G ++ pb).length ((G ++ pb).map U) ∧ Below W.heap.size W w' := by
  have hl := h.len
  have hle := h.le
  have hf : ([G, pb] : List (List UInt8)).flatten = G ++ pb := by simp
  have hA := h.below (boxrP (w := W) (o := .cells #[.slice av G.length cv, .slice ab pb.length cap] 40))
  have hls : ListsP (W.alloc (.cells #[.slice av G.length cv, .slice ab pb.length cap] 40)) W.heap.size U [G, pb] := by
    intro j p hj
    match j, hj with
    | 0, hj =>
      simp at hj; subst hj
      exact ⟨_, by rw [cell_of_row _ _ _ _ _ _ (heap_alloc_new W _)]; rfl, Reads.of_owns hA.own⟩
    | 1, hj =>
      simp at hj; subst hj
      exact ⟨_, by rw [cell_of_row _ _ _ _ _ _ (heap_alloc_new W _)]; rfl, hA.rds⟩
    | (n + 2), hj => simp at hj
  have hc := concat_bytesP W.heap.size [G, pb] (W.alloc (.cells #[.slice av G.length cv, .slice ab pb.length cap] 40)) hls (by simp) (by rw [hf, List.length_append]; omega)
  rw [hf] at hc
  refine hc.mono ?_
  rintro e w' ⟨r, rfl, ho, hb⟩
  have hsz : (W.alloc (.cells #[.slice av G.length cv, .slice ab pb.length cap] 40)).heap.size = W.heap.size + 1 := by simp
  rw [hsz] at ho
  obtain ⟨ra, rc, rfl, _, _⟩ := owns_formP ho
  exact ⟨ra, rc, rfl, ho, boxrP.trans (hb.mono (by simp))⟩
theorem keeps_equal {w W w' : World} {K X : Nat} {B : List UInt8} {room : Int} {s NB cb rc : Nat} {v : Value} {ra ob : Option Addr} {pb G : List UInt8} {ab : Option Addr} {cap : Nat} (h : KA w K B room s v W pb G ab cap)
    (ho : w'.ownsRow X 5 1 (.slice ra (G ++ pb).length rc) (G ++ pb).length ((G ++ pb).map U)) (hr : Reads w' (.slice ob NB cb) NB (B.map U)) (hs : s ≤ NB) :
    Calls Try.prog 19 #[.slice ra (G ++ pb).length rc, .slice ob s cb] w' fun e w'' => e = .returned (.bool true) ∧ Below w'.heap.size w' w'' := by
  have hl : (B.take s).length = s := by rw [List.length_take]; exact Nat.min_eq_left h.le
  have hc := eqP_is ra ob rc cb (G ++ pb) (B.take s) w' (Reads.of_owns ho) (by rw [hl]; exact reads_takeP hr hs)
  rw [hl, decide_eq_true h.eq] at hc
  exact hc
theorem keeps_concat2 {w W : World} {K g : Nat} {B : List UInt8} {room : Int} {s cv : Nat} {av : Option Addr} {pb G : List UInt8} {ab : Option Addr} {cap : Nat} (h : KA w K B room s (.slice av G.length cv) W pb G ab cap) (hs : B.length ≤ 200) (hg : W.heap[g]? = some (.cells #[.slice av G.length cv, .slice ab pb.length cap] 40 (0, 0))) :
    Calls Try.prog 21 #[.slice (some ⟨g, 0, none⟩) 2 2] W fun e w' => ∃ ra rc, e = .returned (.slice ra (G ++ pb).length rc) ∧ w'.ownsRow W.heap.size 5 1 (.slice ra (G ++ pb).length rc) (G ++ pb).length ((G ++ pb).map U) ∧ Below W.heap.size W w' := by
  have hl := h.len
  have hle := h.le
  have hf : ([G, pb] : List (List UInt8)).flatten = G ++ pb := by simp
  have hls : ListsP W g U [G, pb] := by
    intro j p hj
    match j, hj with
    | 0, hj =>
      simp at hj; subst hj
      exact ⟨_, by rw [cell_of_row _ _ _ _ _ _ hg]; rfl, Reads.of_owns h.own⟩
    | 1, hj =>
      simp at hj; subst hj
      exact ⟨_, by rw [cell_of_row _ _ _ _ _ _ hg]; rfl, h.rds⟩
    | (n + 2), hj => simp at hj
  have hc := concat_bytesP g [G, pb] W hls (by simp) (by rw [hf, List.length_append]; omega)
  rw [hf] at hc
  refine hc.mono ?_
  rintro e w' ⟨r, rfl, ho, hb⟩
  obtain ⟨ra, rc, rfl, _, _⟩ := owns_formP ho
  exact ⟨ra, rc, rfl, ho, hb⟩
/-- What each operation of the round's last test yields. -/
def V19 (K : Nat) (room : Int) (ab : Option Addr) (cap : Nat) (pb : List UInt8) (av : Option Addr) (cv : Nat) (G : List UInt8) (ob : Option Addr) (NB cb s : Nat) : Nat → Value → World → Prop
  | 0 => fun v _ => v = .agg #[.slice ab pb.length cap, .int .i64 room, .bool false, .bool false]
  | 1 => fun v _ => v = .int .i64 0
  | 2 => fun v _ => v = .bool false
  | 3 => fun v _ => v = .bool false
  | 4 => fun v _ => v = .int .i64 room
  | 5 => fun v _ => v = .bool (decide (0 < room))
  | 6 => fun v _ => v = .bool (decide (0 < room))
  | 7 => fun v _ => 0 < room → v = .pointer (some ⟨K, 0, none⟩)
  | 8 => fun v _ => 0 < room → v = .slice ab pb.length cap
  | 9 => fun v _ => 0 < room → v = .int .i64 (pb.length : Int)
  | 10 => fun v _ => 0 < room → v = .int .i64 room
  | 11 => fun v _ => 0 < room → v = .bool false
  | 12 => fun v _ => v = .bool false
  | 13 => fun v _ => v = .bool false
  | 14 => fun v _ => v = .bool false
  | 15 => fun v _ => v = .slice av G.length cv
  | 16 => fun v _ => v = .pointer (some ⟨K, 0, none⟩)
  | 17 => fun v _ => v = .slice ab pb.length cap
  | 18 => fun v W => ∃ g, v = .slice (some ⟨g, 0, none⟩) 2 2 ∧ W.heap[g]? = some (.cells #[.slice av G.length cv, .slice ab pb.length cap] 40 (0, 0))
  | 19 => fun v W => ∃ ra rc X, v = .slice ra (G ++ pb).length rc ∧ W.ownsRow X 5 1 (.slice ra (G ++ pb).length rc) (G ++ pb).length ((G ++ pb).map U)
  | 20 => fun v _ => v = .slice ob NB cb
  | 21 => fun v _ => v = .int .i64 (s : Int)
  | 22 => fun v _ => v = .slice ob s cb
  | 23 => fun v _ => v = .bool true
  | 24 => fun v _ => v = .bool false
  | 25 => fun v _ => v = .bool false
  | _ => fun _ _ => True
theorem V19.keep {K : Nat} {room : Int} {ab : Option Addr} {cap : Nat} {pb : List UInt8} {av : Option Addr} {cv : Nat} {G : List UInt8} {ob : Option Addr} {NB cb s : Nat} : ∀ j x A B, V19 K room ab cap pb av cv G ob NB cb s j x A → Below A.heap.size A B → V19 K room ab cap pb av cv G ob NB cb s j x B := by
  intro j x A B h hb
  match j, h with
  | 18, h =>
    obtain ⟨g, h1, h2⟩ := h
    exact ⟨g, h1, (hb.block g (heap_ltP h2)).trans h2⟩
  | 19, h =>
    obtain ⟨ra, rc, X, h1, h2⟩ := h
    exact ⟨ra, rc, X, h1, h2.kept (row := none) ⟨hb.os, hb.tape, hb.output, hb.size, fun k hk _ => hb.block k hk⟩ (by cases hv : (Value.slice ra (G ++ pb).length rc).ownBlock <;> simp)⟩
  | 0, h | 1, h | 2, h | 3, h | 4, h | 5, h | 6, h | 7, h | 8, h | 9, h | 10, h | 11, h | 12, h | 13, h | 14, h | 15, h | 16, h | 17, h | 20, h | 21, h | 22, h | 23, h | 24, h | 25, h => exact h
  | (n + 26), h => exact h
end Go.Proofs.Ytobaeafhdgolmab
