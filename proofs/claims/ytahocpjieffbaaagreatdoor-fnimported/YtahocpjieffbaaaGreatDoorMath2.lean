/-
 Texts that are laid as one: Base, Word, MathSum, MathTag, MathWord, MathOnce, MathLev, MathDig.
-/
import Derived.Test.YtahocpjieffbaaaGreatDoorRows
import Derived.Test.YtahocpjieffbaaaGreatDoorMathAll
import Derived.Laws.BitsAllLaws
import Derived.Laws.Tables
namespace Go.Proofs.YtahocpjieffbaaaGreatDoor
open Go.RowKit
set_option linter.unusedVariables false
theorem info5:(Tryz.prog.info? 5).map (fun i=>(i.zero,i.size,i.bytes))=some (some (.int .u8 0),1,1):=by kernel_rfl
theorem lit_string (l:List UInt8) (cs:Array Value) (hc:cs.toList=bcells l) (n:Nat) (hn:l.length=n) (hm:n≤maxLen) (W:World) :
 (convert 22 9 (.slice (some ⟨W.heap.size,0,none⟩) n n)).run Tryz.prog (W.alloc (.cells cs 5))=.ok (.string ⟨l.toArray⟩) (W.alloc (.cells cs 5)):=by
 have hsz:cs.size=n*1:=by rw[←Array.length_toList,hc,bcells_length];omega
 have:=World.ownsRow_lit (base:=0) (e:=5) (size:=1) W cs n (Nat.zero_le _) hm hsz
 rw[hc] at this
 exact own_string Tryz.underlying22 Tryz.underlying5 Tryz.underlying9 this
theorem lit_string_drew (l:List UInt8) (cs:Array Value) (hc:cs.toList=bcells l) (n:Nat) (hn:l.length=n) (hm:n≤maxLen) (W:World) :
 (convert 22 9 (.slice (some ⟨W.heap.size,0,none⟩) n n)).run Tryz.prog (W.alloc (.cells cs 5)).drew=.ok (.string ⟨l.toArray⟩) (W.alloc (.cells cs 5)).drew:=by
 have hsz:cs.size=n*1:=by rw[←Array.length_toList,hc,bcells_length];omega
 have:=(World.ownsRow_lit (base:=0) (e:=5) (size:=1) W cs n (Nat.zero_le _) hm hsz).drew
 rw[hc] at this
 exact own_string Tryz.underlying22 Tryz.underlying5 Tryz.underlying9 this
def num (a:UInt32):Int:=(a.toNat:Int)
def ad (a b:UInt32):UInt32:=a+b
def xo (a b:UInt32):UInt32:=a ^^^ b
def an (a b:UInt32):UInt32:=a &&& b
def no (a:UInt32):UInt32:=UInt32.ofNat (4294967295 ^^^ a.toNat)
def sr (a:UInt32) (n:Nat):UInt32:=UInt32.ofNat (a.toNat / 2 ^ n)
def rr (a:UInt32) (n:Nat):UInt32:=UInt32.ofNat (a.toNat / 2 ^ n ||| a.toNat*2 ^ (32 - n) % 4294967296)
theorem num_lo (a:UInt32):0≤num a:=Int.natCast_nonneg _
theorem num_hi (a:UInt32):num a<4294967296:=by have:=a.toNat_lt;unfold num;omega
theorem num_of (n:Nat) (h:n<4294967296):num (UInt32.ofNat n)=(n:Int):=by unfold num;rw[UInt32.toNat_ofNat'];congr 1;exact Nat.mod_eq_of_lt (by simpa using h)
theorem e_add (a b:UInt32):(num a+num b) % 4294967296=num (ad a b):=by
 unfold num ad;rw[UInt32.toNat_add];omega
theorem e_addw (a b:UInt32):IntKind.u32.wrap (num a+num b)=num (ad a b):=by
 rw[IntKind.wrap_u32',e_add]
theorem e_xor (a b:UInt32):bits .xor .u32 (num a) (num b)=num (xo a b):=by
 unfold num xo;rw[u32_xor_nat _ _ a.toNat_lt b.toNat_lt,UInt32.toNat_xor]
theorem e_and (a b:UInt32):bits .and .u32 (num a) (num b)=num (an a b):=by
 unfold num an;rw[u32_and_nat _ _ a.toNat_lt b.toNat_lt,UInt32.toNat_and]
theorem e_not (a:UInt32):bits .xor .u32 4294967295 (num a)=num (no a):=by
 have ha:=a.toNat_lt
 have h1:bits .xor .u32 ((4294967295:Nat):Int) (num a)=((4294967295 ^^^ a.toNat:Nat):Int):=u32_xor_nat _ _ (by omega) ha
 have h2:4294967295 ^^^ a.toNat<4294967296:=by
  have:=Nat.xor_lt_two_pow (x:=4294967295) (y:=a.toNat) (n:=32) (by omega) (by simpa using ha)
  simpa using this
 rw[no,num_of _ h2]
 exact h1
theorem e_notm (a:UInt32):bits .xor .u32 IntKind.u32.max (num a)=num (no a):=e_not a
theorem e_noti (a:UInt32):bits .xor .u32 (if IntKind.u32.signed=true then -1 else IntKind.u32.max) (num a)=num (no a):=e_not a
theorem e_shr (a:UInt32) (n:Nat) (p:Int) (hp:p=((2 ^ n:Nat):Int)):num a / p=num (sr a n):=by
 have ha:=a.toNat_lt
 subst hp
 rw[sr,num_of _ (Nat.lt_of_le_of_lt (Nat.div_le_self _ _) ha)]
 unfold num
 rw[Int.natCast_ediv]
theorem e_rot (a:UInt32) (n:Nat) (p q:Int) (hp:p=((2 ^ n:Nat):Int)) (hq:q=((2 ^ (32 - n):Nat):Int)):bits .or .u32 (num a / p) (num a*q % 4294967296)=num (rr a n)∧bits .or .u32 (num a*q % 4294967296) (num a / p)=num (rr a n):=by
 have ha:=a.toNat_lt
 subst hp hq
 have h1:a.toNat / 2 ^ n<4294967296:=Nat.lt_of_le_of_lt (Nat.div_le_self _ _) ha
 have h2:a.toNat*2 ^ (32 - n) % 4294967296<4294967296:=Nat.mod_lt _ (by omega)
 have e1:num a / ((2 ^ n:Nat):Int)=((a.toNat / 2 ^ n:Nat):Int):=by unfold num;rw[Int.natCast_ediv]
 have e2:num a*((2 ^ (32 - n):Nat):Int) % 4294967296=((a.toNat*2 ^ (32 - n) % 4294967296:Nat):Int):=by unfold num;rw[Int.natCast_emod,Int.natCast_mul];rfl
 have h3:a.toNat / 2 ^ n ||| a.toNat*2 ^ (32 - n) % 4294967296<4294967296:=by
  have:=Nat.or_lt_two_pow (n:=32) (by simpa using h1) (by simpa using h2)
  simpa using this
 rw[e1,e2,rr,num_of _ h3]
 exact⟨u32_or_nat _ _ h1 h2,by rw[u32_or_nat _ _ h2 h1,Nat.or_comm]⟩
def ap (x:UInt32) (b:UInt8):UInt32:=UInt32.ofNat (x.toNat*256 % 4294967296 ||| b.toNat)
theorem e_ap (x:UInt32) (b:UInt8):bits .or .u32 (num x*256 % 4294967296) (b.toNat:Int)=num (ap x b):=by
 have hb:=b.toNat_lt
 have h1:x.toNat*256 % 4294967296<4294967296:=Nat.mod_lt _ (by omega)
 have h3:x.toNat*256 % 4294967296 ||| b.toNat<4294967296:=by
  have:=Nat.or_lt_two_pow (n:=32) (by simpa using h1) (show b.toNat<2 ^ 32 by omega)
  simpa using this
 have e2:num x*256 % 4294967296=((x.toNat*256 % 4294967296:Nat):Int):=by unfold num;omega
 rw[e2,ap,num_of _ h3]
 exact u32_or_nat _ _ h1 (by omega)
def wcells (ws:List UInt32):List Value:=ws.map fun x=>.int .u32 (num x)
theorem wcells_length (ws:List UInt32):(wcells ws).length=ws.length:=by simp[wcells]
theorem wcells_at (ws:List UInt32) (j:Nat) (h:j<ws.length):(wcells ws)[j]? = some (.int .u32 (num ws[j])):=by simp[wcells,h]
theorem wcells_set (ws:List UInt32) (j:Nat) (x:UInt32):(wcells ws).set j (.int .u32 (num x))=wcells (ws.set j x):=by simp[wcells,List.map_set]
theorem wcells_one (ws:List UInt32):(wcells ws).toArray.all (·.oneCell')=true:=by
 rw[Array.all_eq_true_iff_forall_mem]
 intro v hv
 simp only[wcells,List.mem_toArray,List.mem_map] at hv
 obtain⟨x,_,rfl⟩:=hv
 rfl
theorem wcells_mem (ws:List UInt32):∀ v∈wcells ws,v.oneCell'=true:=by
 intro v hv
 simp only[wcells,List.mem_map] at hv
 obtain⟨x,_,rfl⟩:=hv
 rfl
theorem num_zero:num 0=0:=rfl
def Arr (w:World) (b t:Nat) (ws:List UInt32):Prop:=w.heap[b]? = some (.cells (wcells ws).toArray t (0,0))
theorem Arr.cell {w:World} {b t:Nat} {ws:List UInt32} (h:Arr w b t ws) (j:Nat) (hj:j<ws.length):w.cell? ⟨b,j,none⟩=some (.int .u32 (num ws[j])):=by
 rw[cell_of_row w b j _ t _ h,List.getElem?_toArray,wcells_at ws j hj]
theorem Arr.free {w:World} {b t:Nat} {ws:List UInt32} (h:Arr w b t ws) (j:Nat):w.frozen? ⟨b,j,none⟩=false:=frozen_of_row w b j _ t h
theorem Arr.lt {w:World} {b t:Nat} {ws:List UInt32} (h:Arr w b t ws):b<w.heap.size:=(Array.getElem?_eq_some_iff.1 h).1
theorem Arr.set {w:World} {b t:Nat} {ws:List UInt32} (h:Arr w b t ws) (j:Nat) (x:UInt32):Arr (w.setCell ⟨b,j,none⟩ (.int .u32 (num x))) b t (ws.set j x):=by
 unfold Arr
 rw[heap_setCell_same w b j _ t _ h,List.setIfInBounds_toArray,wcells_set]
theorem Arr.kept {w w':World} {b t:Nat} {ws:List UInt32} (h:Arr w b t ws) (hb:w'.heap[b]? = w.heap[b]?):Arr w' b t ws:=hb.trans h
structure Laid (w:World) (g t:Nat) (cs:Array Value) (W:World):Prop where
 row:W.heap[g]? = some (.cells cs t (0,0))
 other:∀ k,k≠g→W.heap[k]? = w.heap[k]?
 size:W.heap.size=w.heap.size
 os:W.os=w.os
 tape:W.tape=w.tape
 output:W.output=w.output
theorem Laid.below {w w0 W:World} {g t B:Nat} {cs:Array Value} (h:Laid w g t cs W) (hb:Below B w0 w) (hg:B≤g):Below B w0 W :=
 ⟨h.os.trans hb.os,h.tape.trans hb.tape,h.output.trans hb.output,by rw[h.size];exact hb.size,fun k hk=>by rw[h.other k (by omega)];exact hb.block k hk⟩
theorem store_laid {P:Program} {ops:Array Oper} {rest:List Oper} {o:Oper} {a:Act} {w:World} {Q:Exit→Act→World→Prop} (hgd:o.guard=none) (ty:TypeId) (x y:Operand) (ho:o.op=.store ty x y)
 (g:Nat) (cells:Array Value) (hx:a.eval x=.pointer (some ⟨g,0,none⟩)) (hy:a.eval y=.agg cells)
 (t:TypeId) (old:Array Value) (hg:w.heap[g]? = some (.cells old t (0,0))) (hi:(P.info? ty).map (·.size)=some cells.size)
 (hold:old.size=cells.size) (h1:cells.all (·.oneCell')=true)
 (h:∀ W,Laid w g t cells W→wpList P ops Q rest (a.put o.dst undef) W):wpList P ops Q (o :: rest) a w :=
 wpList_store_row hgd ty x y ho g cells hx hy t old hg hi hold h1 (h _ ⟨setRow_heap w g old cells t _ hg,fun k hk=>setRow_other w g k cells hk,setRow_size w g cells,rfl,rfl,rfl⟩)
def bw (l:List UInt8) (j t:Nat):UInt32:=(((l.take j).drop (4*t)).take 4).foldl ap 0
def bws (l:List UInt8) (j:Nat):List UInt32:=(List.range 16).map (bw l j)
theorem bws_length (l:List UInt8) (j:Nat):(bws l j).length=16:=by simp[bws]
theorem bws_zero (l:List UInt8):bws l 0=List.replicate 16 0:=by
 simp[bws,bw,List.range,List.range.loop,List.replicate]
theorem bws_at (l:List UInt8) (j t:Nat) (h:t<16):(bws l j)[t]'(by rw[bws_length];exact h)=bw l j t:=by simp[bws]
theorem bw_same (l:List UInt8) (j t:Nat) (h:t≠j / 4):bw l (j+1) t=bw l j t:=by
 unfold bw
 congr 1
 rcases Nat.lt_or_ge t (j / 4) with h1 | h1
 · apply List.ext_getElem?
   intro i
   simp only[List.getElem?_take,List.getElem?_drop]
   by_cases hi:i<4
   · rw[if_pos hi,if_pos hi,if_pos (by omega),if_pos (by omega)]
   · rw[if_neg hi,if_neg hi]
 · rw[List.drop_eq_nil_of_le (by simp;omega),List.drop_eq_nil_of_le (by simp;omega)]
theorem bw_more (l:List UInt8) (j:Nat) (h:j<l.length):bw l (j+1) (j / 4)=ap (bw l j (j / 4)) l[j]:=by
 unfold bw
 have e:(((l.take (j+1)).drop (4*(j / 4))).take 4)=(((l.take j).drop (4*(j / 4))).take 4) ++ [l[j]]:=by
  have hl:((l.take j).drop (4*(j / 4))).length+1≤4:=by simp;omega
  rw[List.take_succ_eq_append_getElem h,List.drop_append_of_le_length (by simp;omega)]
  generalize (l.take j).drop (4*(j / 4))=d at hl ⊢
  rw[List.take_of_length_le (by simpa using hl),List.take_of_length_le (by omega)]
 rw[e,List.foldl_append]
 rfl
theorem bws_step (l:List UInt8) (j:Nat) (h:j<l.length) (hj:j<64):(bws l j).set (j / 4) (ap (bw l j (j / 4)) l[j])=bws l (j+1):=by
 apply List.ext_getElem?
 intro i
 rw[List.getElem?_set]
 by_cases hi:j / 4=i
 · subst hi
   rw[if_pos rfl,if_pos (by rw[bws_length];omega)]
   simp only[bws,List.getElem?_map]
   rw[List.getElem?_range (by omega)]
   simp[bw_more l j h]
 · rw[if_neg hi]
   simp only[bws,List.getElem?_map]
   by_cases h16:i<16
   · rw[List.getElem?_range h16]
     simp[bw_same l j i (fun e=>hi e.symm)]
   · simp[h16]
def s0 (x:UInt32):UInt32:=xo (xo (rr x 7) (rr x 18)) (sr x 3)
def s1 (x:UInt32):UInt32:=xo (xo (rr x 17) (rr x 19)) (sr x 10)
def nxt (ws:List UInt32):UInt32:=ad (ad (ad (ws.getD (ws.length - 16) 0) (s0 (ws.getD (ws.length - 15) 0))) (ws.getD (ws.length - 7) 0)) (s1 (ws.getD (ws.length - 2) 0))
def sch (m:List UInt32):Nat→List UInt32
 | 0=>m
 | k+1=>sch m k ++ [nxt (sch m k)]
theorem sch_length (m:List UInt32) (k:Nat):(sch m k).length=m.length+k:=by
 induction k with
 | zero=>rfl
 | succ k ih=>simp[sch,ih];omega
def part (ws:List UInt32) (n:Nat):List UInt32:=ws ++ List.replicate (n - ws.length) 0
theorem part_length (ws:List UInt32) (n:Nat) (h:ws.length≤n):(part ws n).length=n:=by simp[part];omega
theorem part_at (ws:List UInt32) (n i:Nat) (h:i<ws.length) (h2:i<(part ws n).length):(part ws n)[i]=ws.getD i 0:=by
 simp[part,List.getElem_append_left h,h]
theorem part_set (ws:List UInt32) (n:Nat) (x:UInt32) (h:ws.length<n):(part ws n).set ws.length x=part (ws ++ [x]) n:=by
 unfold part
 rw[List.set_append_right _ _ (Nat.le_refl _),Nat.sub_self]
 obtain⟨k,hk⟩:∃ k,n - ws.length=k+1:=⟨n - ws.length - 1,by omega⟩
 have hk2:n - (ws ++ [x]).length=k:=by simp;omega
 rw[hk,hk2,List.replicate_succ]
 simp
theorem part_full (ws:List UInt32) (n:Nat) (h:ws.length=n):part ws n=ws:=by simp[part,h]
theorem arr_known {w:World} {b t:Nat} {ws:List UInt32} {n:Nat} (h:Arr w b t (part ws n)) (i:Nat) (hi:i<ws.length) (hn:ws.length≤n):w.cell? ⟨b,i,none⟩=some (.int .u32 (num (ws.getD i 0))):=by
 have h2:i<(part ws n).length:=by rw[part_length ws n hn];omega
 rw[h.cell i h2,part_at ws n i hi h2]
def kL:List UInt32:=[1116352408,1899447441,3049323471,3921009573,961987163,1508970993,2453635748,2870763221,3624381080,310598401,607225278,1426881987,1925078388,2162078206,2614888103,3248222580,3835390401,4022224774,264347078,604807628,770255983,1249150122,1555081692,1996064986,2554220882,2821834349,2952996808,3210313671,3336571891,3584528711,113926993,338241895,666307205,773529912,1294757372,1396182291,1695183700,1986661051,2177026350,2456956037,2730485921,2820302411,3259730800,3345764771,3516065817,3600352804,4094571909,275423344,430227734,506948616,659060556,883997877,958139571,1322822218,1537002063,1747873779,1955562222,2024104815,2227730452,2361852424,2428436474,2756734187,3204031479,3329325298]
structure S8 where
 a:UInt32
 b:UInt32
 c:UInt32
 d:UInt32
 e:UInt32
 f:UInt32
 g:UInt32
 h:UInt32
def S8.l (s:S8):List UInt32:=[s.a,s.b,s.c,s.d,s.e,s.f,s.g,s.h]
def t1 (s:S8) (k w:UInt32):UInt32:=ad (ad (ad (ad s.h (xo (xo (rr s.e 6) (rr s.e 11)) (rr s.e 25))) (xo (an s.e s.f) (an (no s.e) s.g))) k) w
def t2 (s:S8):UInt32:=ad (xo (xo (rr s.a 2) (rr s.a 13)) (rr s.a 22)) (xo (xo (an s.a s.b) (an s.a s.c)) (an s.b s.c))
def rnd (s:S8) (k w:UInt32):S8:=⟨ad (t1 s k w) (t2 s),s.a,s.b,s.c,ad s.d (t1 s k w),s.e,s.f,s.g⟩
def rnds (ks ws:List UInt32) (s:S8):Nat→S8
 | 0=>s
 | n+1=>rnd (rnds ks ws s n) (ks.getD n 0) (ws.getD n 0)
def plus (r s:S8):S8:=⟨ad r.a s.a,ad r.b s.b,ad r.c s.c,ad r.d s.d,ad r.e s.e,ad r.f s.f,ad r.g s.g,ad r.h s.h⟩
def mix (s:S8) (m:List UInt32):S8:=plus (rnds kL (sch m 48) s 64) s
def pl (r s:S8) (j:Nat):List UInt32:=(List.range 8).map fun i=>if i<j then ad (r.l.getD i 0) (s.l.getD i 0) else r.l.getD i 0
theorem pl_length (r s:S8) (j:Nat):(pl r s j).length=8:=by simp[pl]
theorem pl_zero (r s:S8):pl r s 0=r.l:=rfl
theorem pl_all (r s:S8):pl r s 8=(plus r s).l:=rfl
theorem pl_at (r s:S8) (j:Nat) (h:j<8):(pl r s j)[j]'(by rw[pl_length];exact h)=r.l.getD j 0:=by simp[pl]
theorem pl_step (r s:S8) (j:Nat) (h:j<8):(pl r s j).set j (ad (r.l.getD j 0) (s.l.getD j 0))=pl r s (j+1):=by
 apply List.ext_getElem?
 intro i
 rw[List.getElem?_set]
 by_cases hi:j=i
 · subst hi
   rw[if_pos rfl,if_pos (by rw[pl_length];exact h)]
   simp only[pl,List.getElem?_map]
   rw[List.getElem?_range h]
   simp
 · rw[if_neg hi]
   simp only[pl,List.getElem?_map]
   by_cases h8:i<8
   · rw[List.getElem?_range h8]
     simp[show (i<j+1)=(i<j) by simp;omega]
   · simp[h8]
theorem s8_at (s:S8) (j:Nat) (h:j<8):s.l[j]'(by simp[S8.l];exact h)=s.l.getD j 0:=by simp[S8.l,List.getD,h]
def bl (l:List UInt8):List UInt32:=bws l 64
def stAt (s:S8) (l:List UInt8):Nat→S8
 | 0=>s
 | j+1=>mix (stAt s l j) (bl ((l.drop (64*j)).take 64))
theorem stAt_front (s:S8) (a b:List UInt8) (j:Nat) (h:64*j≤a.length):stAt s (a ++ b) j=stAt s a j:=by
 induction j with
 | zero=>rfl
 | succ j ih =>
   rw[stAt,stAt,ih (by omega)]
   congr 2
   rw[List.drop_append_of_le_length (by omega),List.take_append_of_le_length (by simp;omega)]
theorem stAt_behind (s:S8) (a b:List UInt8) (m j:Nat) (h:a.length=64*m):stAt s (a ++ b) (m+j)=stAt (stAt s a m) b j:=by
 induction j with
 | zero=>exact stAt_front s a b m (by omega)
 | succ j ih =>
   rw[←Nat.add_assoc,stAt,stAt,ih]
   congr 2
   have:64*(m+j)=a.length+64*j:=by omega
   rw[this,List.drop_append,List.drop_eq_nil_of_le (by omega)]
   simp
theorem ext_mid (l:List UInt8) (i n:Nat) (h:i+n≤l.length):(ByteArray.mk l.toArray).extract i (i+n)=⟨((l.drop i).take n).toArray⟩:=by
 apply ByteArray.ext
 simp[ByteArray.extract,ByteArray.copySlice]
theorem sl_mid {P:Program} {t:TypeId} (ht:P.underlying t=some .string) (l:List UInt8) (x y:Int) (i n:Nat) (hx:x=(i:Int)) (hy:y=((i+n:Nat):Int)) (h:i+n≤l.length) (W:World) :
 (Instr.slice t (.string ⟨l.toArray⟩) (some (.int .i64 x)) (some (.int .i64 y)) none).run P W=.ok (.string ⟨((l.drop i).take n).toArray⟩) W:=by
 subst hx hy
 have hz:(ByteArray.mk l.toArray).size=l.length:=by simp[ByteArray.size]
 rw[run_slice_string_if W t _ _ _ _ _ ht,if_pos (by rw[hz];omega),if_pos (by omega),Int.toNat_natCast,Int.toNat_natCast,ext_mid l i n h]
theorem load_row {P:Program} (W:World) (g t n:Nat) (cs:Array Value) (hg:W.heap[g]? = some (.cells cs t (0,0))) (hn:cs.size=n) :
 (loadCellsFrom ⟨g,0,none⟩ 0 n #[]).run P W=.ok cs W:=by
 subst hn
 have:=run_loadCells_list (P:=P) W ⟨g,0,none⟩ cs.toList (fun j v hv=>by
  rw[add_none,cell_of_row W g j cs t (0,0) hg]
  simpa using hv)
 simpa [loadCells] using this
theorem store_row {P:Program} (W:World) (g t:Nat) (old cs:Array Value) (hg:W.heap[g]? = some (.cells old t (0,0))) (ho:old.size=cs.size) (h1:cs.all (·.oneCell')=true) :
 (storeCells ⟨g,0,none⟩ cs.toList 0).run P W=.ok () (W.setRow g cs):=by
 have:=run_storeCells_from (P:=P) g t cs.toList 0 old W hg (by simp;omega) (fun v hv=>(Array.all_eq_true_iff_forall_mem.1 h1) v (by simpa using hv))
 simpa using this
def padZ (k:Nat):Nat:=(119 - k % 64) % 64
theorem padZ_le (k:Nat):padZ k<64:=Nat.mod_lt _ (by omega)
theorem padZ_more (k z:Nat) (h:z<padZ k):(k+1+z) % 64≠56:=by unfold padZ at h;omega
theorem padZ_end (k:Nat):(k+1+padZ k) % 64=56:=by unfold padZ;omega
theorem padZ_part (a b:Nat) (h:a % 64=0):padZ (a+b)=padZ b:=by unfold padZ;omega
def padB (l:List UInt8) (n:Nat):List UInt8:=l ++ (128 :: List.replicate (padZ l.length) 0) ++ bigB (8*n) 8
theorem padB_length (l:List UInt8) (n:Nat):(padB l n).length=l.length+1+padZ l.length+8:=by simp[padB,bigB_length];omega
theorem padB_blocks (l:List UInt8) (n:Nat):(padB l n).length=64*((padB l n).length / 64):=by have:=padZ_end l.length;rw[padB_length];omega
theorem padB_part (a b:List UInt8) (n:Nat) (h:a.length % 64=0):padB (a ++ b) n=a ++ padB b n:=by
 unfold padB;rw[List.length_append,padZ_part _ _ h];simp
def wB (x:UInt32):List UInt8:=[UInt8.ofNat (x.toNat / 16777216),UInt8.ofNat (x.toNat / 65536),UInt8.ofNat (x.toNat / 256),UInt8.ofNat x.toNat]
def stT (s:S8):List UInt8:=(s.l.map wB).flatten
def initS:S8:=⟨1779033703,3144134277,1013904242,2773480762,1359893119,2600822924,528734635,1541459225⟩
def sumL (l:List UInt8):List UInt8:=stT (stAt initS (padB l l.length) ((padB l l.length).length / 64))
theorem e_byte (x:UInt32) (p:Int) (n:Nat) (hp:p=(n:Int)):num x / p % 256=((UInt8.ofNat (x.toNat / n)).toNat:Int):=by
 subst hp;unfold num;rw[byte_of];omega
theorem e_byte0 (x:UInt32):num x % 256=((UInt8.ofNat x.toNat).toNat:Int):=by unfold num;rw[byte_of]
theorem stT_step (s:S8) (j:Nat) (h:j<8):((s.l.take (j+1)).map wB).flatten=((s.l.take j).map wB).flatten ++ wB (s.l.getD j 0):=by
 have hl:j<s.l.length:=by simpa [S8.l] using h
 rw[List.take_succ_eq_append_getElem hl,s8_at s j h]
 simp
theorem stT_len (s:S8) (j:Nat) (h:j≤8):(((s.l.take j).map wB).flatten).length=4*j:=by
 induction j with
 | zero=>rfl
 | succ j ih=>rw[stT_step s j (by omega),List.length_append,ih (by omega)];simp[wB];omega
def textsB (ls:List (List UInt8)):List UInt8:=(ls.map textB).flatten
def listB (ls:List (List UInt8)):List UInt8:=wrapB (textsB ls) 192
def tagL (tag:List UInt8) (ps:List (List UInt8)):List UInt8:=if ps.length≤1000∧tag.length+ps.flatten.length≤30000 then sumL (listB (tag :: ps)) else []
theorem tagL_yes (tag:List UInt8) (ps:List (List UInt8)) (h1:ps.length≤1000) (h2:tag.length+ps.flatten.length≤30000):tagL tag ps=sumL (listB (tag :: ps)):=if_pos ⟨h1,h2⟩
theorem tagL_many (tag:List UInt8) (ps:List (List UInt8)) (h:1000<ps.length):tagL tag ps=[]:=if_neg fun hh=>by omega
theorem tagL_long (tag:List UInt8) (ps:List (List UInt8)) (j:Nat) (h:30000<tag.length+(ps.take j).flatten.length):tagL tag ps=[]:=if_neg fun hh=>by have:=flat_le ps j;omega
theorem textsB_snoc (ls:List (List UInt8)) (l:List UInt8):textsB (ls ++ [l])=textsB ls ++ textB l:=by simp[textsB]
theorem textsB_take (ls:List (List UInt8)) (j:Nat) (h:j<ls.length):textsB (ls.take (j+1))=textsB (ls.take j) ++ textB ls[j]:=by
 rw[List.take_succ_eq_append_getElem h,textsB_snoc]
theorem textsB_len (ls:List (List UInt8)) (h:ls.flatten.length<65536):(textsB ls).length≤ls.flatten.length+3*ls.length:=by
 induction ls with
 | nil=>simp[textsB]
 | cons x r ih =>
   rw[List.flatten_cons,List.length_append] at h
   have h1:=ih (by omega)
   have h2:=textB_len x (by omega)
   have e:textsB (x :: r)=textB x ++ textsB r:=by simp[textsB]
   rw[e,List.length_append,List.flatten_cons,List.length_append,List.length_cons]
   omega
theorem textsB_part (ls:List (List UInt8)) (j:Nat) (h:ls.flatten.length<65536):(textsB (ls.take j)).length≤ls.flatten.length+3*ls.length:=by
 have h1:=flat_le ls j
 have h2:=textsB_len (ls.take j) (by omega)
 have h3:(ls.take j).length≤ls.length:=by rw[List.length_take];omega
 omega
theorem listB_len (ls:List (List UInt8)) (h:ls.flatten.length≤30000) (hl:ls.length≤1001):(textsB ls).length≤33003∧(listB ls).length≤33006:=by
 have h1:=textsB_len ls (by omega)
 have h2:=wrapB_len (textsB ls) 192 (by omega)
 unfold listB
 omega
theorem isItem_text (x:List UInt8) (h:x.length≤60000):isItemL (textB x)=true:=by
 have:=takeL_text_fore x [] h
 rw[List.append_nil] at this
 exact isItemL_yes _ _ _ this
theorem listL_texts (ls:List (List UInt8)) (h:ls.flatten.length≤30000) (hl:ls.length≤1001):listL (ls.map textB)=listB ls:=by
 refine listL_yes _ (by have:=(listB_len ls h hl).1;unfold textsB at this;omega) ?_
 rw[List.all_eq_true]
 intro y hy
 simp only[List.mem_map] at hy
 obtain⟨x,hx,rfl⟩:=hy
 obtain⟨j,hj,rfl⟩:=List.getElem_of_mem hx
 have:=each_le ls j hj
 exact isItem_text _ (by omega)
theorem getD_app_left (a b:List UInt32) (i:Nat) (h:i<a.length):(a ++ b).getD i 0=a.getD i 0:=by
 simp[List.getD,List.getElem?_append_left h]
theorem sch_more (m:List UInt32) (k i:Nat) (h:i<m.length+k):(sch m (k+1)).getD i 0=(sch m k).getD i 0:=by
 rw[sch];exact getD_app_left _ _ _ (by rw[sch_length];exact h)
theorem sch_low (m:List UInt32) (k i:Nat) (h:i<m.length):(sch m k).getD i 0=m.getD i 0:=by
 induction k with
 | zero=>rfl
 | succ k ih=>rw[sch_more m k i (by omega),ih]
theorem sch_rec (m:List UInt32) (k n:Nat) (hm:m.length=16) (h1:16≤n) (h2:n<16+k) :
 (sch m k).getD n 0=ad (ad (ad ((sch m k).getD (n - 16) 0) (s0 ((sch m k).getD (n - 15) 0))) ((sch m k).getD (n - 7) 0)) (s1 ((sch m k).getD (n - 2) 0)):=by
 induction k with
 | zero=>omega
 | succ k ih =>
   by_cases h:n<16+k
   · rw[sch_more m k n (by omega),sch_more m k (n - 16) (by omega),sch_more m k (n - 15) (by omega),sch_more m k (n - 7) (by omega),sch_more m k (n - 2) (by omega)]
     exact ih h
   · have hn:n=16+k:=by omega
     rw[sch_more m k (n - 16) (by omega),sch_more m k (n - 15) (by omega),sch_more m k (n - 7) (by omega),sch_more m k (n - 2) (by omega)]
     have hl:(sch m k).length=n:=by rw[sch_length];omega
     have e1:(sch m (k+1)).getD n 0=nxt (sch m k):=by
      rw[sch,List.getD,List.getElem?_append_right (by omega)]
      simp[hl]
     rw[e1,nxt,hl]
theorem ad_comm (a b:UInt32):ad a b=ad b a:=by unfold ad;exact UInt32.add_comm a b
theorem ad_assoc (a b c:UInt32):ad (ad a b) c=ad a (ad b c):=by unfold ad;exact UInt32.add_assoc a b c
theorem ad_four (p x q y:UInt32):ad (ad (ad y q) x) p=ad (ad (ad p x) q) y:=by
 rw[ad_comm (ad (ad y q) x) p,ad_comm (ad y q) x,←ad_assoc,ad_comm y q,←ad_assoc]
theorem take_more (F:List UInt32) (n:Nat) (h:n<F.length):(part (F.take n) F.length).set n (F.getD n 0)=part (F.take (n+1)) F.length:=by
 have hl:(F.take n).length=n:=by rw[List.length_take];omega
 have:=part_set (F.take n) F.length (F.getD n 0) (by omega)
 rw[hl] at this
 rw[this,List.take_succ_eq_append_getElem h]
 simp[List.getD,h]
theorem take_getD (F:List UInt32) (n i:Nat) (h:i<n) (hn:n≤F.length):(F.take n).getD i 0=F.getD i 0:=by
 simp[List.getD,h]
theorem take_known {w:World} {b t:Nat} {F:List UInt32} {n:Nat} (h:Arr w b t (part (F.take n) F.length)) (i:Nat) (hi:i<n) (hn:n≤F.length):w.cell? ⟨b,i,none⟩=some (.int .u32 (num (F.getD i 0))):=by
 have hl:(F.take n).length=n:=by rw[List.length_take];omega
 rw[arr_known h i (by omega) (by omega),take_getD F n i hi hn]
def w4 (a b c d:UInt8):UInt32:=UInt32.ofNat (a.toNat*16777216+b.toNat*65536+c.toNat*256+d.toNat)
theorem ap_num (x:UInt32) (b:UInt8) (h:x.toNat<16777216):(ap x b).toNat=x.toNat*256+b.toNat:=by
 have hb:=b.toNat_lt
 have e:x.toNat*256 % 4294967296=x.toNat*256:=Nat.mod_eq_of_lt (by omega)
 rw[ap,e,nat_join 8 (x.toNat*256) b.toNat (by omega) (by omega),UInt32.toNat_ofNat']
 exact Nat.mod_eq_of_lt (by omega)
theorem fold_w4 (a b c d:UInt8) : [a,b,c,d].foldl ap 0=w4 a b c d:=by
 have ha:=a.toNat_lt
 have hb:=b.toNat_lt
 have hc:=c.toNat_lt
 have hd:=d.toNat_lt
 simp only[List.foldl]
 have z:(0:UInt32).toNat=0:=rfl
 have h1:(ap 0 a).toNat=a.toNat:=by rw[ap_num 0 a (by rw[z];omega),z];omega
 have h2:(ap (ap 0 a) b).toNat=a.toNat*256+b.toNat:=by rw[ap_num _ b (by rw[h1];omega),h1]
 have h3:(ap (ap (ap 0 a) b) c).toNat=(a.toNat*256+b.toNat)*256+c.toNat:=by rw[ap_num _ c (by rw[h2];omega),h2]
 have h4:(ap (ap (ap (ap 0 a) b) c) d).toNat=((a.toNat*256+b.toNat)*256+c.toNat)*256+d.toNat:=by rw[ap_num _ d (by rw[h3];omega),h3]
 apply UInt32.toNat_inj.1
 rw[h4,w4,UInt32.toNat_ofNat',Nat.mod_eq_of_lt (by omega)]
 omega
theorem e_w4 (a b c d:UInt8):bits .or .u32 (bits .or .u32 (bits .or .u32 ((a.toNat:Int)*16777216) ((b.toNat:Int)*65536)) ((c.toNat:Int)*256)) (d.toNat:Int)=num (w4 a b c d):=by
 have ha:=a.toNat_lt
 have hb:=b.toNat_lt
 have hc:=c.toNat_lt
 have hd:=d.toNat_lt
 have e1:bits .or .u32 ((a.toNat:Int)*16777216) ((b.toNat:Int)*65536)=((a.toNat*16777216+b.toNat*65536:Nat):Int):=by
  have:=u32_or_nat (a.toNat*16777216) (b.toNat*65536) (by omega) (by omega)
  rw[nat_join 24 (a.toNat*16777216) (b.toNat*65536) (by omega) (by omega)] at this
  rw[←this];congr 1 <;> omega
 have e2:bits .or .u32 ((a.toNat*16777216+b.toNat*65536:Nat):Int) ((c.toNat:Int)*256)=((a.toNat*16777216+b.toNat*65536+c.toNat*256:Nat):Int):=by
  have:=u32_or_nat (a.toNat*16777216+b.toNat*65536) (c.toNat*256) (by omega) (by omega)
  rw[nat_join 16 (a.toNat*16777216+b.toNat*65536) (c.toNat*256) (by omega) (by omega)] at this
  rw[←this];congr 1
 have e3:bits .or .u32 ((a.toNat*16777216+b.toNat*65536+c.toNat*256:Nat):Int) (d.toNat:Int)=((a.toNat*16777216+b.toNat*65536+c.toNat*256+d.toNat:Nat):Int):=by
  have:=u32_or_nat (a.toNat*16777216+b.toNat*65536+c.toNat*256) d.toNat (by omega) (by omega)
  rw[nat_join 8 (a.toNat*16777216+b.toNat*65536+c.toNat*256) d.toNat (by omega) (by omega)] at this
  exact this
 rw[e1,e2,e3,w4,num_of _ (by omega)]
theorem bl_at (l:List UInt8) (hl:l.length=64) (t:Nat) (h:t<16):(bl l).getD t 0=w4 (l.getD (4*t) 0) (l.getD (4*t+1) 0) (l.getD (4*t+2) 0) (l.getD (4*t+3) 0):=by
 rw[←fold_w4]
 have e1:(bl l).getD t 0=bw l 64 t:=by simp[bl,bws,List.getD,h]
 rw[e1,bw]
 congr 1
 rw[List.take_of_length_le (l:=l) (by omega)]
 apply List.ext_getElem?
 intro i
 simp only[List.getElem?_take,List.getElem?_drop]
 match i with
 | 0=>simp[List.getD,show 4*t<l.length by omega]
 | 1=>simp[List.getD,show 4*t+1<l.length by omega]
 | 2=>simp[List.getD,show 4*t+2<l.length by omega]
 | 3=>simp[List.getD,show 4*t+3<l.length by omega]
 | i+4=>simp;omega
theorem sumL_len (l:List UInt8):(sumL l).length=32:=by
 have h:∀ s:S8,(stT s).length=32:=fun s=>by
  have:=stT_len s 8 (Nat.le_refl _)
  rw[List.take_of_length_le (by simp[S8.l])] at this
  exact this
 exact h _
theorem tagL_len (tag:List UInt8) (ps:List (List UInt8)) (h1:ps.length≤1000) (h2:tag.length+ps.flatten.length≤30000):(tagL tag ps).length=32:=by
 rw[tagL_yes tag ps h1 h2,sumL_len]
def tDigits:List UInt8:=[100,105,103,105,116,115]
def tChain:List UInt8:=[99,104,97,105,110]
def tStart:List UInt8:=[115,116,97,114,116]
def tOnce:List UInt8:=[111,110,99,101]
def tLeaf:List UInt8:=[108,101,97,102]
def tNode:List UInt8:=[110,111,100,101]
def byteL (n:Nat):List UInt8:=[UInt8.ofNat n]
def icells (ds:List Nat):List Value:=ds.map fun (n:Nat)=>Value.int .i64 (n:Int)
theorem icells_length (ds:List Nat):(icells ds).length=ds.length:=by simp[icells]
theorem icells_app (a b:List Nat):icells (a ++ b)=icells a ++ icells b:=by simp[icells]
theorem icells_at (ds:List Nat) (j:Nat) (h:j<ds.length):(icells ds)[j]? = some (.int .i64 (ds[j]:Int)):=by simp[icells,h]
theorem icells_one (ds:List Nat):∀ u∈icells ds,u.oneCell'=true:=by
 intro u hu
 simp only[icells,List.mem_map] at hu
 obtain⟨n,_,rfl⟩:=hu
 rfl
def dig4 (b:UInt8):List Nat:=[b.toNat / 64,b.toNat / 16 % 4,b.toNat / 4 % 4,b.toNat % 4]
def digs (h:List UInt8):List Nat:=((h.take 4).map dig4).flatten
def chk (ds:List Nat):Nat:=(ds.map fun d=>3 - d).sum
def dig3 (n:Nat):List Nat:=[n / 16,n / 4 % 4,n % 4]
def digestD (msg:List UInt8):List UInt8:=tagL tDigits [sumL msg]
def digitsL (msg:List UInt8):List Nat:=digs (digestD msg) ++ dig3 (chk (digs (digestD msg)))
theorem digestD_len (msg:List UInt8):(digestD msg).length=32:=tagL_len _ _ (by simp) (by simp[tDigits,sumL_len])
theorem dig4_lt (b:UInt8):∀ d∈dig4 b,d≤3:=by
 intro d hd
 have:=b.toNat_lt
 simp[dig4] at hd
 omega
theorem digs_lt (h:List UInt8):∀ d∈digs h,d≤3:=by
 intro d hd
 simp only[digs,List.mem_flatten,List.mem_map] at hd
 obtain⟨l,⟨b,_,rfl⟩,hd⟩:=hd
 exact dig4_lt b d hd
theorem digs4 (h:List UInt8) (hl:4≤h.length) (j:Nat) (hj:j<4):((h.take (j+1)).map dig4).flatten=((h.take j).map dig4).flatten ++ dig4 (h[j]'(by omega)):=by
 rw[List.take_succ_eq_append_getElem (by omega:j<h.length),List.map_append,List.flatten_append]
 simp only[List.map_cons,List.map_nil,List.flatten_cons,List.flatten_nil,List.append_nil]
theorem digs4_len (h:List UInt8) (hl:4≤h.length) (j:Nat) (hj:j≤4):(((h.take j).map dig4).flatten).length=4*j:=by
 induction j with
 | zero=>rfl
 | succ j ih=>rw[digs4 h hl j (by omega),List.length_append,ih (by omega)];simp[dig4];omega
theorem digs_len (h:List UInt8) (hl:4≤h.length):(digs h).length=16:=digs4_len h hl 4 (by omega)
theorem chk_app (a b:List Nat):chk (a ++ b)=chk a+chk b:=by simp[chk]
theorem chk_le (ds:List Nat):chk ds≤3*ds.length:=by
 induction ds with
 | nil=>simp[chk]
 | cons d r ih=>simp only[chk,List.map_cons,List.sum_cons,List.length_cons] at ih ⊢;omega
theorem chk_take (ds:List Nat) (j:Nat) (h:j<ds.length):chk (ds.take (j+1))=chk (ds.take j)+(3 - ds[j]):=by
 rw[List.take_succ_eq_append_getElem h,chk_app]
 simp[chk]
theorem digitsL_len (msg:List UInt8):(digitsL msg).length=19:=by
 rw[digitsL,List.length_append,digs_len _ (by rw[digestD_len];omega)]
 rfl
theorem chk48 (msg:List UInt8):chk (digs (digestD msg))≤48:=by
 have h1:=chk_le (digs (digestD msg))
 rw[digs_len _ (by rw[digestD_len];omega)] at h1
 exact h1
theorem digitsL_lt (msg:List UInt8):∀ d∈digitsL msg,d≤3:=by
 intro d hd
 rw[digitsL,List.mem_append] at hd
 rcases hd with hd | hd
 · exact digs_lt _ d hd
 · have:=chk48 msg
   simp[dig3] at hd
   omega
theorem digitsL_at (msg:List UInt8) (j:Nat) (h:j<(digitsL msg).length):(digitsL msg)[j]≤3:=digitsL_lt msg _ (List.getElem_mem _)
def chainL (c f:Nat) (x:List UInt8):Nat→List UInt8
 | 0=>x
 | k+1=>tagL tChain [byteL c,byteL (f+k),chainL c f x k]
theorem chainL_len (c f:Nat) (x:List UInt8) (h:x.length=32):∀ k,(chainL c f x k).length=32
 | 0=>h
 | k+1=>tagL_len _ _ (by simp) (by simp[tChain,byteL,chainL_len c f x h k])
theorem chainL_add (c f:Nat) (x:List UInt8) (a:Nat):∀ b,chainL c (f+a) (chainL c f x a) b=chainL c f x (a+b)
 | 0=>rfl
 | b+1=>by rw[chainL,chainL_add c f x a b,←Nat.add_assoc a b 1,chainL,Nat.add_assoc]
def startL (seed:List UInt8) (c:Nat):List UInt8:=tagL tStart [seed,byteL c]
theorem startL_len (seed:List UInt8) (c:Nat) (h:seed.length=32):(startL seed c).length=32:=tagL_len _ _ (by simp) (by simp[tStart,byteL,h])
def endsL (seed:List UInt8) (j:Nat):List (List UInt8):=(List.range j).map fun i=>chainL i 0 (startL seed i) 3
def publicL (seed:List UInt8):List UInt8:=tagL tOnce (endsL seed 19)
def sigL (seed msg:List UInt8) (j:Nat):List (List UInt8):=(List.range j).map fun i=>chainL i 0 (startL seed i) ((digitsL msg).getD i 0)
def leadL (msg:List UInt8) (sig:List (List UInt8)) (j:Nat):List (List UInt8):=(List.range j).map fun i=>chainL i ((digitsL msg).getD i 0) (sig.getD i []) (3 - (digitsL msg).getD i 0)
def publicOfL (msg:List UInt8) (sig:List (List UInt8)):List UInt8:=tagL tOnce (leadL msg sig 19)
theorem digitsL_getD (msg:List UInt8) (i:Nat):(digitsL msg).getD i 0≤3:=by
 by_cases h:i<(digitsL msg).length
 · rw[List.getD_eq_getElem?_getD,List.getElem?_eq_getElem h];exact digitsL_at msg i h
 · rw[List.getD_eq_getElem?_getD,List.getElem?_eq_none (by omega)];simp
theorem flat32 (ls:List (List UInt8)) (h:∀ l∈ls,l.length=32):ls.flatten.length=32*ls.length:=by
 induction ls with
 | nil=>rfl
 | cons a r ih =>
   rw[List.flatten_cons,List.length_append,ih (fun l hl=>h l (List.mem_cons_of_mem _ hl)),h a (List.mem_cons_self ..),List.length_cons]
   omega
theorem endsL_snoc (seed:List UInt8) (j:Nat):endsL seed (j+1)=endsL seed j ++ [chainL j 0 (startL seed j) 3]:=by simp[endsL,List.range_succ]
theorem sigL_snoc (seed msg:List UInt8) (j:Nat):sigL seed msg (j+1)=sigL seed msg j ++ [chainL j 0 (startL seed j) ((digitsL msg).getD j 0)]:=by simp[sigL,List.range_succ]
theorem leadL_snoc (msg:List UInt8) (sig:List (List UInt8)) (j:Nat):leadL msg sig (j+1)=leadL msg sig j ++ [chainL j ((digitsL msg).getD j 0) (sig.getD j []) (3 - (digitsL msg).getD j 0)]:=by simp[leadL,List.range_succ]
theorem endsL_length (seed:List UInt8) (j:Nat):(endsL seed j).length=j:=by simp[endsL]
theorem sigL_length (seed msg:List UInt8) (j:Nat):(sigL seed msg j).length=j:=by simp[sigL]
theorem leadL_length (msg:List UInt8) (sig:List (List UInt8)) (j:Nat):(leadL msg sig j).length=j:=by simp[leadL]
theorem endsL_32 (seed:List UInt8) (h:seed.length=32) (j:Nat):∀ l∈endsL seed j,l.length=32:=by
 intro l hl
 simp only[endsL,List.mem_map] at hl
 obtain⟨i,_,rfl⟩:=hl
 exact chainL_len _ _ _ (startL_len seed i h) _
theorem sigL_32 (seed msg:List UInt8) (h:seed.length=32) (j:Nat):∀ l∈sigL seed msg j,l.length=32:=by
 intro l hl
 simp only[sigL,List.mem_map] at hl
 obtain⟨i,_,rfl⟩:=hl
 exact chainL_len _ _ _ (startL_len seed i h) _
theorem leadL_32 (msg:List UInt8) (sig:List (List UInt8)) (h:∀ l∈sig,l.length=32) (j:Nat) (hj:j≤sig.length):∀ l∈leadL msg sig j,l.length=32:=by
 intro l hl
 simp only[leadL,List.mem_map,List.mem_range] at hl
 obtain⟨i,hi,rfl⟩:=hl
 refine chainL_len _ _ _ ?_ _
 rw[List.getD_eq_getElem?_getD,List.getElem?_eq_getElem (by omega:i<sig.length)]
 exact h _ (List.getElem_mem _)
theorem publicL_len (seed:List UInt8) (h:seed.length=32):(publicL seed).length=32 :=
 tagL_len _ _ (by rw[endsL_length];omega) (by rw[flat32 _ (endsL_32 seed h 19),endsL_length];simp[tOnce])
theorem publicOfL_len (msg:List UInt8) (sig:List (List UInt8)) (hl:sig.length=19) (h:∀ l∈sig,l.length=32):(publicOfL msg sig).length=32 :=
 tagL_len _ _ (by rw[leadL_length];omega) (by rw[flat32 _ (leadL_32 msg sig h 19 (by omega)),leadL_length];simp[tOnce])
theorem once_back (seed msg:List UInt8):publicOfL msg (sigL seed msg 19)=publicL seed:=by
 unfold publicOfL publicL
 refine congrArg (tagL tOnce) ?_
 unfold leadL endsL
 apply List.map_congr_left
 intro i hi
 rw[List.mem_range] at hi
 have hg:(sigL seed msg 19).getD i []=chainL i 0 (startL seed i) ((digitsL msg).getD i 0):=by
  rw[List.getD_eq_getElem?_getD,sigL,List.getElem?_map,List.getElem?_range hi];rfl
 have hd:=digitsL_getD msg i
 rw[hg]
 have:=chainL_add i 0 (startL seed i) ((digitsL msg).getD i 0) (3 - (digitsL msg).getD i 0)
 rw[Nat.zero_add] at this
 rw[this]
 exact congrArg (chainL i 0 (startL seed i)) (by omega)
def leafL (seed:List UInt8) (i:Nat):List UInt8:=tagL tLeaf [seed,byteL i]
def nodeL (a b:List UInt8):List UInt8:=tagL tNode [a,b]
theorem leafL_len (seed:List UInt8) (i:Nat) (h:seed.length=32):(leafL seed i).length=32:=tagL_len _ _ (by simp) (by simp[tLeaf,byteL,h])
theorem nodeL_len (a b:List UInt8) (ha:a.length=32) (hb:b.length=32):(nodeL a b).length=32:=tagL_len _ _ (by simp) (by simp[tNode,ha,hb])
def keyL (seed:List UInt8) (i:Nat):List UInt8:=publicL (leafL seed i)
theorem keyL_len (seed:List UInt8) (i:Nat) (h:seed.length=32):(keyL seed i).length=32:=publicL_len _ (leafL_len seed i h)
def level0 (seed:List UInt8):List (List UInt8):=[keyL seed 0,keyL seed 1,keyL seed 2,keyL seed 3]
def level1 (seed:List UInt8):List (List UInt8):=[nodeL (keyL seed 0) (keyL seed 1),nodeL (keyL seed 2) (keyL seed 3)]
def rootL (seed:List UInt8):List UInt8:=nodeL (nodeL (keyL seed 0) (keyL seed 1)) (nodeL (keyL seed 2) (keyL seed 3))
theorem rootL_len (seed:List UInt8) (h:seed.length=32):(rootL seed).length=32 :=
 nodeL_len _ _ (nodeL_len _ _ (keyL_len _ _ h) (keyL_len _ _ h)) (nodeL_len _ _ (keyL_len _ _ h) (keyL_len _ _ h))
def pathL (seed:List UInt8):Nat→List (List UInt8)
 | 0=>[keyL seed 1,nodeL (keyL seed 2) (keyL seed 3)]
 | 1=>[keyL seed 0,nodeL (keyL seed 2) (keyL seed 3)]
 | 2=>[keyL seed 3,nodeL (keyL seed 0) (keyL seed 1)]
 | _=>[keyL seed 2,nodeL (keyL seed 0) (keyL seed 1)]
def upL (i:Nat) (x y:List UInt8):List UInt8:=if i % 2=1 then nodeL y x else nodeL x y
def leadsL (i:Nat) (x p q:List UInt8):List UInt8:=upL (i / 2) (upL i x p) q
theorem leads_back (seed:List UInt8) (i:Nat) (h:i<4):∃ p q,pathL seed i=[p,q]∧leadsL i (keyL seed i) p q=rootL seed:=by
 match i,h with
 | 0,_=>exact⟨_,_,rfl,by simp[leadsL,upL,rootL]⟩
 | 1,_=>exact⟨_,_,rfl,by simp[leadsL,upL,rootL]⟩
 | 2,_=>exact⟨_,_,rfl,by simp[leadsL,upL,rootL]⟩
 | 3,_=>exact⟨_,_,rfl,by simp[leadsL,upL,rootL]⟩
def pairsTo (L:List (List UInt8)) (j:Nat):List (List UInt8):=(List.range j).map fun k=>nodeL (L.getD (2*k) []) (L.getD (2*k+1) [])
theorem pairsTo_snoc (L:List (List UInt8)) (j:Nat):pairsTo L (j+1)=pairsTo L j ++ [nodeL (L.getD (2*j) []) (L.getD (2*j+1) [])]:=by simp[pairsTo,List.range_succ]
theorem pairsTo_length (L:List (List UInt8)) (j:Nat):(pairsTo L j).length=j:=by simp[pairsTo]
def keysTo (seed:List UInt8) (j:Nat):List (List UInt8):=(List.range j).map fun k=>keyL seed k
theorem keysTo_snoc (seed:List UInt8) (j:Nat):keysTo seed (j+1)=keysTo seed j ++ [keyL seed j]:=by simp[keysTo,List.range_succ]
theorem keysTo_four (seed:List UInt8):keysTo seed 4=level0 seed:=by simp[keysTo,level0,List.range_succ]
theorem pairs_level1 (seed:List UInt8):pairsTo (level0 seed) 2=level1 seed:=by simp[pairsTo,level0,level1,List.range_succ]
theorem pairs_level2 (seed:List UInt8):pairsTo (level1 seed) 1=[rootL seed]:=by simp[pairsTo,level1,rootL,List.range_succ]
theorem level0_32 (seed:List UInt8) (h:seed.length=32) (k:Nat) (hk:k<4):((level0 seed).getD k []).length=32:=by
 match k,hk with
 | 0,_=>simp only[level0,List.getD_cons_zero];exact keyL_len seed 0 h
 | 1,_=>simp only[level0,List.getD_cons_zero,List.getD_cons_succ];exact keyL_len seed 1 h
 | 2,_=>simp only[level0,List.getD_cons_zero,List.getD_cons_succ];exact keyL_len seed 2 h
 | 3,_=>simp only[level0,List.getD_cons_zero,List.getD_cons_succ];exact keyL_len seed 3 h
theorem level1_32 (seed:List UInt8) (h:seed.length=32) (k:Nat) (hk:k<2):((level1 seed).getD k []).length=32:=by
 match k,hk with
 | 0,_=>simp only[level1,List.getD_cons_zero];exact nodeL_len _ _ (keyL_len seed 0 h) (keyL_len seed 1 h)
 | 1,_=>simp only[level1,List.getD_cons_zero,List.getD_cons_succ];exact nodeL_len _ _ (keyL_len seed 2 h) (keyL_len seed 3 h)
theorem row_at {w:World} {b e g n cap:Nat} {L:List (List UInt8)} (h:w.ownsRow b e 1 (.slice (some ⟨g,0,none⟩) n cap) n (scells L)) (hL:L.length=n) (k:Nat) (hk:k<n):w.cell? ⟨g,k,none⟩=some (.string ⟨(L.getD k []).toArray⟩):=by
 rw[h.cellAt k (by omega),scells_at L k (by omega),List.getD_eq_getElem?_getD,List.getElem?_eq_getElem (by omega)];rfl
theorem own_ne {w:World} {b1 b2 e1 e2 g1 g2 n1 n2 c1 c2:Nat} {xs ys:List Value} (h1:w.ownsRow b1 e1 1 (.slice (some ⟨g1,0,none⟩) n1 c1) n1 xs) (h2:w.ownsRow b2 e2 1 (.slice (some ⟨g2,0,none⟩) n2 c2) n2 ys) (he:e1≠e2):g1≠g2:=by
 rcases h1.2 with ⟨h,_⟩ | ⟨a,_,cur,h,_,hh,_⟩
 · cases h
 · cases h
   rcases h2.2 with ⟨h,_⟩ | ⟨a',_,cur',h,_,hh',_⟩
   · cases h
   · cases h
     intro e
     subst e
     rw[hh] at hh'
     simp at hh'
     exact he hh'.2
theorem chk_mono:∀ (ds es:List Nat),ds.length=es.length→(∀ i,i<ds.length→ds.getD i 0≤es.getD i 0)→(∀ e∈es,e≤3)→chk es≤chk ds∧(chk es=chk ds→ds=es)
 | [],[],_,_,_=>⟨Nat.le_refl _,fun _=>rfl⟩
 | d :: ds, e :: es, hl, hp, h3 => by
   have h0:=hp 0 (by simp)
   have he:=h3 e (List.mem_cons_self ..)
   have ih:=chk_mono ds es (by simpa using hl) (fun i hi=>by have:=hp (i+1) (by simp;omega);simpa using this) (fun x hx=>h3 x (List.mem_cons_of_mem _ hx))
   simp only[List.getD_cons_zero] at h0
   have e1:chk (d :: ds)=(3 - d)+chk ds:=by simp[chk]
   have e2:chk (e :: es)=(3 - e)+chk es:=by simp[chk]
   rw[e1,e2]
   refine⟨by omega,fun h=>?_⟩
   have h1:chk es=chk ds:=by omega
   rw[ih.2 h1,show d=e by omega]
 | [],e :: es,hl,_,_=>by simp at hl
 | d :: ds,[],hl,_,_=>by simp at hl
theorem digits_at (msg:List UInt8) (i:Nat) (h:i<16):(digitsL msg).getD i 0=(digs (digestD msg)).getD i 0:=by
 have hl:=digs_len (digestD msg) (by rw[digestD_len];omega)
 rw[digitsL,List.getD_eq_getElem?_getD,List.getElem?_append_left (by omega),←List.getD_eq_getElem?_getD]
theorem digits_last (msg:List UInt8) (i:Nat):(digitsL msg).getD (16+i) 0=(dig3 (chk (digs (digestD msg)))).getD i 0:=by
 have hl:=digs_len (digestD msg) (by rw[digestD_len];omega)
 rw[digitsL,List.getD_eq_getElem?_getD,List.getElem?_append_right (by omega),hl,Nat.add_sub_cancel_left,←List.getD_eq_getElem?_getD]
theorem digits_le (m n:List UInt8) (h:∀ i,i<19→(digitsL m).getD i 0≤(digitsL n).getD i 0):digitsL m=digitsL n:=by
 have h1:=digs_len (digestD m) (by rw[digestD_len];omega)
 have h2:=digs_len (digestD n) (by rw[digestD_len];omega)
 have hm:=chk_mono (digs (digestD m)) (digs (digestD n)) (by omega) (fun i hi=>by rw[←digits_at m i (by omega),←digits_at n i (by omega)];exact h i (by omega)) (digs_lt _)
 have k1:=chk48 m
 have k2:=chk48 n
 have a0:=h 16 (by omega)
 have a1:=h 17 (by omega)
 have a2:=h 18 (by omega)
 rw[show 16=16+0 from rfl,digits_last,digits_last] at a0
 rw[show 17=16+1 from rfl,digits_last,digits_last] at a1
 rw[show 18=16+2 from rfl,digits_last,digits_last] at a2
 simp only[dig3,List.getD_cons_zero,List.getD_cons_succ] at a0 a1 a2
 have he:chk (digs (digestD n))=chk (digs (digestD m)):=by omega
 rw[digitsL,digitsL,hm.2 he]
def gtB (a b:List Nat) (j:Nat):Bool:=(List.range j).any fun i=>decide (b.getD i 0<a.getD i 0)
theorem gtB_succ (a b:List Nat) (j:Nat):gtB a b (j+1)=(gtB a b j || decide (b.getD j 0<a.getD j 0)):=by simp[gtB,List.range_succ]
theorem gtB_no (a b:List Nat) (j:Nat) (h:gtB a b j=false):∀ i,i<j→a.getD i 0≤b.getD i 0:=by
 intro i hi
 simp only[gtB,List.any_eq_false,List.mem_range,decide_eq_true_eq] at h
 have:=h i hi
 omega
theorem gtB_self (a:List Nat) (j:Nat):gtB a a j=false:=by simp[gtB]
theorem gtB_both (m n:List UInt8):gtB (digitsL m) (digitsL n) 19=gtB (digitsL n) (digitsL m) 19:=by
 cases h:gtB (digitsL m) (digitsL n) 19 with
 | false=>rw[digits_le m n (gtB_no _ _ _ h),gtB_self]
 | true =>
   cases h':gtB (digitsL n) (digitsL m) 19 with
   | true=>rfl
   | false =>
     rw[digits_le n m (gtB_no _ _ _ h'),gtB_self] at h
     cases h
end Go.Proofs.YtahocpjieffbaaaGreatDoor
