import Derived.Below
import Derived.Deep.QuietTactic
import Derived.IntWalk
import Derived.Laws.AppendOwn
import Derived.Laws.BitsLemmas
import Derived.Laws.OwnMore
import Derived.Laws.Rows
import Derived.Laws.Strings
import Derived.Laws.World
import Derived.Lib.AppendZeros
import Derived.Maps.AppendAt
import Derived.Maps.OwnSet
import Derived.OneCell
import Derived.OwnWalk
import Derived.Tactics
import Derived.WalkSmall
import GoSem.Claim
import GoSem.ClaimWide
import GoSem.Core.Value
namespace Go.Proofs.YtmfijackgekioaaGreatDoor
theorem aaa:type_of% @List.getD_eq_getElem?_getD:=@List.getD_eq_getElem?_getD
theorem aab:type_of% @Go.lt_of_block:=@Go.lt_of_block
theorem aac:type_of% @List.length_append:=@List.length_append
theorem aad:type_of% @Nat.le_refl:=@Nat.le_refl
theorem aae:type_of% @if_neg:=@if_neg
theorem aaf:type_of% @if_pos:=@if_pos
theorem aag:type_of% @Go.RowKit.Below.heap_setCell:=@Go.RowKit.Below.heap_setCell
theorem aah:type_of% @Go.IntWalk.i64_in:=@Go.IntWalk.i64_in
theorem aai:type_of% @List.getElem?_eq_getElem:=@List.getElem?_eq_getElem
theorem aaj:type_of% @Nat.zero_le:=@Nat.zero_le
theorem aak:type_of% @Go.RowKit.Below.refl:=@Go.RowKit.Below.refl
theorem aal:type_of% @Go.bodyPost_ret:=@Go.bodyPost_ret
theorem aam:type_of% @beq_eq_false_iff_ne:=@beq_eq_false_iff_ne
theorem aan:type_of% @Go.cell_of_row:=@Go.cell_of_row
theorem aao:type_of% @List.length_cons:=@List.length_cons
theorem aap:type_of% @Go.below_drewN:=@Go.below_drewN
theorem aaq:type_of% @List.append_assoc:=@List.append_assoc
theorem aar:type_of% @Nat.lt_of_lt_of_le:=@Nat.lt_of_lt_of_le
theorem aas:type_of% @List.getElem?_eq_none:=@List.getElem?_eq_none
theorem aat:type_of% @Go.heap_setCell_same:=@Go.heap_setCell_same
theorem aau:type_of% @List.eq_nil_of_length_eq_zero:=@List.eq_nil_of_length_eq_zero
theorem aav:type_of% @List.take_of_length_le:=@List.take_of_length_le
theorem aaw:type_of% @decide_eq_true:=@decide_eq_true
theorem aax:type_of% @Go.wpList_append_own:=@Go.wpList_append_own
theorem aay:type_of% @Option.some.inj:=@Option.some.inj
theorem aaz:type_of% @Nat.le_trans:=@Nat.le_trans
theorem aaA:type_of% @Nat.mul_le_mul:=@Nat.mul_le_mul
theorem aaB:type_of% @List.take_succ_eq_append_getElem:=@List.take_succ_eq_append_getElem
theorem aaC:type_of% @Go.World.size_alloc:=@Go.World.size_alloc
theorem aaE:type_of% @Go.frozen_of_row:=@Go.frozen_of_row
theorem aaF:type_of% @Nat.zero_add:=@Nat.zero_add
theorem aaG:type_of% @List.getElem?_append_right:=@List.getElem?_append_right
theorem aaH:type_of% @decide_eq_true_eq:=@decide_eq_true_eq
theorem aaI:type_of% @Nat.le_of_lt:=@Nat.le_of_lt
theorem aaJ:type_of% @Bool.and_eq_true:=@Bool.and_eq_true
theorem aaL:type_of% @Nat.lt_or_ge:=@Nat.lt_or_ge
theorem aaM:type_of% @Go.RowKit.Below.heap_alloc:=@Go.RowKit.Below.heap_alloc
theorem aaN:type_of% @Array.length_toList:=@Array.length_toList
theorem aaO:type_of% @Int.eq_ofNat_of_zero_le:=@Int.eq_ofNat_of_zero_le
theorem aaQ:type_of% @List.length_take:=@List.length_take
theorem aaR:type_of% @List.getElem_mem:=@List.getElem_mem
theorem aaS:type_of% @List.getElem?_append_left:=@List.getElem?_append_left
theorem aaT:type_of% @Go.World.cell?_of_block:=@Go.World.cell?_of_block
theorem aaU:type_of% @Nat.mul_le_mul_right:=@Nat.mul_le_mul_right
theorem aaV:type_of% @Nat.mul_comm:=@Nat.mul_comm
theorem aaW:type_of% @List.head_eq_of_cons_eq:=@List.head_eq_of_cons_eq
theorem aaX:type_of% @Go.info_parts:=@Go.info_parts
theorem aaY:type_of% @Go.World.size_setCell:=@Go.World.size_setCell
theorem aaZ:type_of% @List.length_set:=@List.length_set
theorem aa0:type_of% @Nat.mul_assoc:=@Nat.mul_assoc
theorem aa1:type_of% @Go.cell_one_new:=@Go.cell_one_new
theorem aa2:type_of% @Nat.pow_le_pow_right:=@Nat.pow_le_pow_right
theorem aa3:type_of% @Bool.eq_iff_iff:=@Bool.eq_iff_iff
theorem aa4:type_of% @decide_eq_false:=@decide_eq_false
theorem aa5:type_of% @Int.toNat_natCast:=@Int.toNat_natCast
theorem aa6:type_of% @Go.Lib.wpList_append_run:=@Go.Lib.wpList_append_run
theorem aa7:type_of% @ByteArray.size_extract:=@ByteArray.size_extract
theorem aa8:type_of% @List.mem_append:=@List.mem_append
theorem aa9:type_of% @List.append_nil:=@List.append_nil
theorem aba:type_of% @Go.World.ownsRow_nil:=@Go.World.ownsRow_nil
theorem abb:type_of% @List.length_singleton:=@List.length_singleton
theorem abd:type_of% @Go.Value.slice.injEq:=@Go.Value.slice.injEq
theorem abe:type_of% @Go.results_none:=@Go.results_none
theorem abf:type_of% @List.mem_singleton:=@List.mem_singleton
theorem abg:type_of% @List.nil_append:=@List.nil_append
theorem abh:type_of% @List.length_replicate:=@List.length_replicate
theorem abj:type_of% @Int.le_refl:=@Int.le_refl
theorem abk:type_of% @List.getElem?_map:=@List.getElem?_map
theorem abl:type_of% @Bool.false_eq_true:=@Bool.false_eq_true
theorem abm:type_of% @Nat.div_eq_of_lt:=@Nat.div_eq_of_lt
theorem abn:type_of% @List.map_congr_left:=@List.map_congr_left
theorem abo:type_of% @List.map_append:=@List.map_append
theorem abp:type_of% @Nat.mod_eq_of_lt:=@Nat.mod_eq_of_lt
theorem abq:type_of% @congrArg:=@congrArg
theorem abr:type_of% @Go.Calls.quiet_of_same:=@Go.Calls.quiet_of_same
theorem abs:type_of% @beq_iff_eq:=@beq_iff_eq
theorem abt:type_of% @List.ext_getElem:=@List.ext_getElem
theorem abv:type_of% @List.length_drop:=@List.length_drop
theorem abw:type_of% @Go.DataW.lit.injEq:=@Go.DataW.lit.injEq
theorem abx:type_of% @List.getElem?_take:=@List.getElem?_take
theorem aby:type_of% @Go.RowKit.ownsRow_setCell_below:=@Go.RowKit.ownsRow_setCell_below
theorem abz:type_of% @Nat.zero_mul:=@Nat.zero_mul
theorem abA:type_of% @Go.Lit.int.injEq:=@Go.Lit.int.injEq
theorem abB:type_of% @List.drop_eq_getElem_cons:=@List.drop_eq_getElem_cons
theorem abC:type_of% @List.not_mem_nil:=@List.not_mem_nil
theorem abD:type_of% @Nat.lt_succ_self:=@Nat.lt_succ_self
theorem abE:type_of% @List.length_map:=@List.length_map
theorem abG:type_of% @true_and:=@true_and
theorem abH:type_of% @Option.some.injEq:=@Option.some.injEq
theorem abI:type_of% @Nat.add_assoc:=@Nat.add_assoc
theorem abJ:type_of% @List.mem_cons_self:=@List.mem_cons_self
theorem abK:type_of% @List.getElem?_replicate:=@List.getElem?_replicate
theorem abL:type_of% @List.getElem_map:=@List.getElem_map
theorem abM:type_of% @Go.IntWalk.wrap64_in:=@Go.IntWalk.wrap64_in
theorem abN:type_of% @List.mem_cons_of_mem:=@List.mem_cons_of_mem
theorem abO:type_of% @List.extract_eq_take_drop:=@List.extract_eq_take_drop
theorem abP:type_of% @List.getElem_range:=@List.getElem_range
theorem abQ:type_of% @Nat.add_zero:=@Nat.add_zero
theorem abR:type_of% @Nat.succ_mul:=@Nat.succ_mul
theorem abS:type_of% @List.length_nil:=@List.length_nil
theorem abT:type_of% @Go.IntKind.wrap_u8:=@Go.IntKind.wrap_u8
theorem abU:type_of% @List.getElem_of_mem:=@List.getElem_of_mem
theorem abV:type_of% @Nat.testBit_eq_decide_div_mod_eq:=@Nat.testBit_eq_decide_div_mod_eq
theorem abW:type_of% @Int.mul_nonneg:=@Int.mul_nonneg
theorem abX:type_of% @Bool.false_and:=@Bool.false_and
theorem abY:type_of% @Nat.not_lt_zero:=@Nat.not_lt_zero
theorem ab0:type_of% @List.mem_cons:=@List.mem_cons
theorem ab1:type_of% @Nat.pow_succ:=@Nat.pow_succ
theorem ab2:type_of% @ByteArray.data_extract:=@ByteArray.data_extract
theorem ab3:type_of% @Go.ByteArray.toList_eq:=@Go.ByteArray.toList_eq
theorem ab5:type_of% @Int.mul_le_mul:=@Int.mul_le_mul
theorem ab6:type_of% @Go.wpList_lookup_own_ok_int:=@Go.wpList_lookup_own_ok_int
theorem ab7:type_of% @Go.toList_madeCells_one:=@Go.toList_madeCells_one
theorem aca:type_of% @List.getElem?_set_ne:=@List.getElem?_set_ne
theorem acb:type_of% @List.mem_of_mem_take:=@List.mem_of_mem_take
theorem acg:type_of% @Array.toList_extract:=@Array.toList_extract
theorem ach:type_of% @List.map_cons:=@List.map_cons
theorem acj:type_of% @Nat.mod_lt:=@Nat.mod_lt
theorem acm:type_of% @Option.map_eq_some_iff:=@Option.map_eq_some_iff
theorem acn:type_of% @List.cons_append:=@List.cons_append
theorem acq:type_of% @UInt8.toNat_ofNat':=@UInt8.toNat_ofNat'
theorem acr:type_of% @Option.getD_some:=@Option.getD_some
theorem acs:type_of% @Int.not_lt:=@Int.not_lt
theorem acu:type_of% @Bool.true_and:=@Bool.true_and
theorem acv:type_of% @List.drop_zero:=@List.drop_zero
theorem acw:type_of% @Bool.and_false:=@Bool.and_false
theorem acA:type_of% @if_false:=@if_false
end Go.Proofs.YtmfijackgekioaaGreatDoor
