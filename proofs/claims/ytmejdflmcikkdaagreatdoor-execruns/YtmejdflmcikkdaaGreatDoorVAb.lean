/- Three short words. -/
import Derived.Below
import Derived.Laws.Rows
namespace Go
open Go.RowKit
abbrev Bq (w w':World):Prop:=Below w.heap.size w w'
theorem qH {p:Prop} (h:p):Hid p:=h
theorem qE {a:Type} (x:a):∃z,z=x:=⟨x,rfl⟩
theorem qT {w x y:World} (h:Hid (Below w.heap.size w x)) (g:Below x.heap.size x y):Hid (Below w.heap.size w y):=h.out.trans (g.mono h.out.size)
theorem qC {w V:World} {a:Addr} {v:Value} (b:Below w.heap.size w V) (h:w.cell? a=some v):V.cell? a=some v:=(b.cell (World.block_lt_of_cell? w _ h)).trans h
theorem qR {w:World} {b j:Nat} {c:Array Value} {t:TypeId} {f:Nat×Nat} {v:Option Value} (g:w.heap[b]? = some (.cells c t f)) (h:c[j]? = v):w.cell? ⟨b,j,none⟩=v:=(cell_of_row _ _ _ _ _ _ g).trans h
theorem qK {w V:World} {k:Nat} {o:Obj} (b:Below w.heap.size w V) (h:w.heap[k]? = some o):V.heap[k]? = some o:=(b.block _ (Array.getElem?_eq_some_iff.1 h).1).trans h
abbrev qA:=@Nat.le_refl
abbrev qB:=@if_neg
abbrev qD:=@Calls.mono
abbrev qF:=@if_pos
abbrev qG:=@decide_eq_false
abbrev qI:=@List.length_append
abbrev qJ:=@heap_alloc_new
abbrev qM:=@Nat.zero_le
abbrev qN:=@Array.getD_eq_getD_getElem?
abbrev qP:=@List.take_of_length_le
abbrev qS:=@List.length_map
abbrev qV:=@decide_eq_true
abbrev qX:=@List.length_take
abbrev qY:=@cell_of_row
abbrev qZ:=@List.take_add_one
abbrev qa:=@List.getElem?_map
abbrev qc:=@Nat.le_trans
abbrev qd:=@Option.some.inj
abbrev qe:=@Option.some.injEq
abbrev qg:=@beq_eq_false_iff_ne
abbrev qh:=@Int.toNat_natCast
abbrev qi:=@List.drop_of_length_le
abbrev qj:=@List.take_length
abbrev qk:=@Nat.zero_add
abbrev ql:=@List.length_cons
abbrev qm:=@Int.eq_ofNat_of_zero_le
abbrev qn:=@List.eq_nil_of_length_eq_zero
abbrev qp:=@of_decide_eq_true
abbrev qq:=@List.getElem?_cons_zero
abbrev qt:=@List.drop_eq_getElem_cons
abbrev qu:=@List.getElem?_append_right
abbrev qw:=@List.getElem?_of_mem
abbrev qx:=@bodyPost_ret
abbrev qy:=@List.length_drop
abbrev qz:=@List.length_eq_zero_iff
abbrev xA:=@List.mem_map
abbrev xB:=@wpList_append_own
abbrev xC:=@List.flatten_cons
abbrev xE:=@List.getElem?_set
abbrev xF:=@List.map_append
abbrev xG:=@Option.map_some
abbrev xH:=@Array.getElem?_toList
abbrev xI:=@List.length_nil
abbrev xJ:=@List.getElem?_append_left
abbrev xK:=@toList_madeCells_one
abbrev xM:=@heap_alloc2_new
abbrev xO:=@List.getElem?_cons_succ
abbrev xP:=@List.getElem?_replicate
abbrev xQ:=@heap_alloc2_old
abbrev xR:=@Array.getElem?_eq_none
abbrev xT:=@Value.slice.injEq
abbrev xU:=@List.take_append_drop
abbrev xW:=@frozen_of_row
abbrev xX:=@List.getElem?_toArray
abbrev xY:=@List.mem_append
abbrev xd:=@List.getElem?_range
abbrev xZ:=@List.length_zipWith
abbrev xe:=@List.getElem?_set_ne
abbrev xg:=@List.getElem?_take
abbrev xj:=@List.length_pos_iff
abbrev xl:=@List.isEmpty_iff
abbrev xo:=@Nat.lt_or_ge
abbrev xq:=@List.ext_getElem?
abbrev xt:=@Nat.sub_self
abbrev xu:=@List.getElem?_drop
abbrev xy:=@List.map_cons
abbrev xz:=@List.append_nil
abbrev zA:=@Nat.min_eq_left
abbrev zB:=@List.mem_range
abbrev zC:=@List.mem_singleton
abbrev zD:=@List.mem_cons
abbrev zE:=@Option.getD_some
abbrev zF:=@Array.length_toList
abbrev zG:=@List.set_append_right
abbrev zH:=@setCell_eq_setRow
abbrev zI:=@Nat.mul_one
abbrev zJ:=@Nat.lt_of_lt_of_le
abbrev zK:=@Nat.add_assoc
abbrev zL:=@trivial
abbrev zM:=@List.getElem?_zipWith_eq_some
abbrev zN:=@List.getElem?_eq_none
abbrev zO:=@Option.toList_some
abbrev zP:=@List.map_map
abbrev zQ:=@List.append_assoc
abbrev zR:=@List.nil_append
abbrev zS:=@List.mem_or_eq_of_mem_set
abbrev zT:=@Array.getElem?_eq_getElem
abbrev zU:=@List.getElem?_zipWith
abbrev zV:=@List.cons_lt_cons_iff
abbrev zW:=@List.find?_eq_none
abbrev zY:=@List.cons_append
abbrev zX:=@Bool.and_eq_true
abbrev zZ:=@List.getElem_mem
abbrev za:=@Nat.eq_zero_or_pos
abbrev zb:=@Array.getElem?_setIfInBounds_self_of_lt
abbrev zc:=@List.mem_of_getElem?
abbrev zd:=@List.take_append_of_le_length
abbrev ze:=@Nat.mul_le_mul_right
abbrev zg:=@DataW.trod_int
abbrev zh:=@decide_eq_true_eq
abbrev zk:=@DataW.trod_struct
abbrev zm:=@Nat.not_lt_zero
abbrev zo:=@List.head?_cons
abbrev zq:=@List.map_congr_left
abbrev zt:=@List.flatten_append
abbrev zu:=@List.getElem?_set_self
abbrev zv:=@List.mem_flatten
abbrev zw:=@List.all_eq_true
abbrev zx:=@IntKind.wrap_i64
abbrev zy:=@Bool.false_eq_true
abbrev zz:=@List.length_replicate
theorem qf {a:Type} {o:Option a} {x y:a} (h:o=some x) (e:x=y:=by kernel_rfl):o=some y:=h.trans (congrArg some e)
theorem qO{p:Prop}(h:p:=by omega):p:=h
theorem qQ{a:Type}{x y:a}(h:x=y:=by kernel_rfl):x=y:=h
theorem RowKit.Hid.o{p:Prop}(h:Hid p):p:=h.out
abbrev qU:=List UInt8
abbrev qL:=List (List UInt8)
end Go
