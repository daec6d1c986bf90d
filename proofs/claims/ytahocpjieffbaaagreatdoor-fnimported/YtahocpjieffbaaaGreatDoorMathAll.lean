/-
 Texts that are laid as one: Math, MathPre, MathWrap, MathTake, MathTxt, MathBack, MathStrs, MathItems, MathList, MathRow, MathStep.
-/
import Derived.WalkKit
import Derived.WalkSpells
import Derived.WalkLawsBesides
import Derived.Deep.RegionHeld3
import Derived.Deep.AppendLies
import Derived.Maps.AppendAt
import Derived.Deep.Onto
import Derived.Lib.Join
import Derived.ArgAppend
import Derived.Deep.RegionLaw
namespace Go.Proofs.YtahocpjieffbaaaGreatDoor
open Go.RowKit
set_option linter.unusedVariables false
def bcells (l:List UInt8):List Value:=l.map fun b=>.int .u8 (b.toNat:Int)
theorem bcells_length (l:List UInt8):(bcells l).length=l.length:=by simp[bcells]
def nibs (l:List UInt8):List UInt8:=l.flatMap fun b=>[b / 16,b % 16]
theorem nibs_length (l:List UInt8):(nibs l).length=2*l.length:=by
 induction l with
 | nil=>rfl
 | cons a l ih=>simp only[nibs,List.flatMap_cons,List.length_append,List.length_cons,List.length_nil] at ih ⊢;omega
theorem take_snoc (s:ByteArray) (k:Nat) (h:k<s.size):s.data.toList.take (k+1)=s.data.toList.take k ++ [s[k]]:=by
 rw[List.take_succ_eq_append_getElem (by simpa using h)];rfl
theorem take_all (s:ByteArray) (k:Nat) (h:¬ k<s.size):s.data.toList.take k=s.data.toList:=List.take_of_length_le (by simpa using Nat.le_of_not_lt h)
theorem nibs_snoc (s:ByteArray) (k:Nat) (h:k<s.size):nibs (s.data.toList.take (k+1))=nibs (s.data.toList.take k) ++ [s[k] / 16,s[k] % 16]:=by
 rw[take_snoc s k h];simp[nibs]
theorem u8_wrap_small (n:Int) (h0:0≤n) (h1:n<256):IntKind.u8.wrap n=n:=by
 simp[IntKind.wrap,IntKind.signed,IntKind.bits];omega
theorem u8_hi (b:UInt8):IntKind.u8.wrap ((b.toNat:Int) / 16)=((b / 16).toNat:Int):=by
 have:=b.toNat_lt
 rw[u8_wrap_small _ (by omega) (by omega)];simp
theorem u8_hi' (b:UInt8):(b.toNat:Int) / 16=((b / 16).toNat:Int):=by simp
theorem u8_lo (b:UInt8):((b.toNat:Int)).tmod 16=((b % 16).toNat:Int):=by
 rw[Int.tmod_eq_emod_of_nonneg (by omega)];simp
theorem u8_and15_all:∀ n:Fin 256,bits BinOp.and IntKind.u8 ((n.val:Nat):Int) 15=((n.val % 16:Nat):Int):=by decide +kernel
theorem u8_and15 (b:UInt8):bits BinOp.and IntKind.u8 (b.toNat:Int) 15=((b % 16).toNat:Int):=by
 have:=u8_and15_all ⟨b.toNat,b.toNat_lt⟩
 simpa using this
theorem add_none (g j:Nat):(⟨g,0,none⟩:Addr).add j=⟨g,j,none⟩:=by unfold Addr.add;split <;> simp_all
theorem own_string {P:Program} {w:World} {base e t d g n cap:Nat} {l:List UInt8} (hs:P.underlying t=some (.slice e)) (he:P.underlying e=some (.int .u8)) (hd:P.underlying d=some .string)
 (h:w.ownsRow base e 1 (.slice (some ⟨g,0,none⟩) n cap) n (bcells l)):(convert t d (.slice (some ⟨g,0,none⟩) n cap)).run P w=.ok (.string ⟨l.toArray⟩) w:=by
 have hn:n=l.length:=by have:=h.1;simp[bcells] at this;omega
 subst hn
 refine run_convert_bytes_back w t d e _ cap l hs he hd fun j hj=>?_
 rw[add_none,h.cellAt j (by omega)]
 simp[bcells,List.getElem?_eq_getElem hj]
theorem own_base {w:World} {base e size g n cap:Nat} {xs:List Value} (h:w.ownsRow base e size (.slice (some ⟨g,0,none⟩) n cap) n xs):base≤g:=by
 rcases h.2 with ⟨h',_⟩ | ⟨g',cap',cur,h',hb,_⟩
 · simp at h'
 · simp only[Value.slice.injEq,Option.some.injEq,Addr.mk.injEq,and_true,true_and] at h'
   obtain⟨rfl,rfl⟩:=h'
   exact hb
theorem below_app {B g n cap:Nat} {w wr w1:World} {o:Obj} (hbel:Below B w wr) (hB:B≤wr.heap.size) (hg:B≤g) (hgrow:(wr.alloc o).drew.grownBy w1 (Value.slice (some ⟨g,0,none⟩) n cap).ownBlock):Below B w w1 :=
 ((hbel.alloc hB o).drew).grown hgrow (by simp;omega) (by intro j hj;simp[Value.ownBlock] at hj;subst hj;exact hg)
theorem below_app0 {B g n cap:Nat} {w wr w1:World} {o:Obj} (hbel:Below B w wr) (hB:B≤wr.heap.size) (hg:B≤g) (hgrow:(wr.alloc o).grownBy w1 (Value.slice (some ⟨g,0,none⟩) n cap).ownBlock):Below B w w1 :=
 (hbel.alloc hB o).grown hgrow (by simp;omega) (by intro j hj;simp[Value.ownBlock] at hj;subst hj;exact hg)
theorem ret_string {a b:List UInt8} (h:a=b):Ending.returned (.string ⟨a.toArray⟩)=.returned (.string ⟨b.toArray⟩):=by rw[h]
def isNibs (l:List UInt8):Bool:=l.all fun b=>decide (b.toNat≤15)
theorem isNibs_snoc (s:ByteArray) (k:Nat) (h:k<s.size):isNibs (s.data.toList.take (k+1))=(isNibs (s.data.toList.take k) && decide (s[k].toNat≤15)):=by
 rw[take_snoc s k h];simp[isNibs]
theorem isNibs_no (s:ByteArray) (k:Nat) (h:k<s.size) (hb:¬ s[k].toNat≤15):isNibs s.data.toList=false:=by
 have hm:s[k]∈s.data.toList:=by
  have:s[k]=s.data.toList[k]'(by simpa using h):=rfl
  rw[this];exact List.getElem_mem _
 unfold isNibs
 rw[List.all_eq_false]
 exact⟨s[k],hm,by simpa using hb⟩
theorem isNibs_at (l:List UInt8) (h:isNibs l=true) (k:Nat) (hk:k<l.length):l[k].toNat≤15:=by
 unfold isNibs at h
 rw[List.all_eq_true] at h
 simpa using h l[k] (List.getElem_mem _)
def pack:List UInt8→List UInt8
 | a :: b :: r=>(16*a+b) :: pack r
 | _=>[]
theorem pack_snoc:∀ (k:Nat) (l:List UInt8) (h:2*k+1<l.length),pack (l.take (2*(k+1)))=pack (l.take (2*k)) ++ [16*l[2*k]+l[2*k+1]]
 | 0,a :: b :: r,_=>by simp[pack]
 | k + 1, a :: b :: r, h => by
   have:=pack_snoc k r (by simp at h;omega)
   simp only[show 2*(k+1+1)=2*(k+1)+1+1 from by omega,show 2*(k+1)=2*k+1+1 from by omega,List.take_succ_cons,pack,List.cons_append,List.getElem_cons_succ] at this ⊢
   rw[this]
 | _,[],h=>by simp at h
 | _,[_],h=>by simp at h
theorem pack_length:∀ (k:Nat) (l:List UInt8) (_:2*k≤l.length),(pack (l.take (2*k))).length=k
 | 0,_,_=>by simp[pack]
 | k + 1, a :: b :: r, h => by
   have:=pack_length k r (by simp at h;omega)
   simp only[show 2*(k+1)=2*k+1+1 from by omega,List.take_succ_cons,pack,List.length_cons]
   rw[this]
 | _+1,[],h=>by simp at h
 | _+1,[_],h=>by simp at h;omega
def withFlag (l:List UInt8) (leaf:Bool):List UInt8 :=
 if l.length % 2=1 then (if leaf then 3 else 1) :: l else (if leaf then 2 else 0) :: 0 :: l
theorem u8_shl4_or_all:∀ a b:Fin 16,bits BinOp.or IntKind.u8 (IntKind.u8.wrap (((a.val:Nat):Int)*16)) ((b.val:Nat):Int)=((16*a.val+b.val:Nat):Int):=by decide +kernel
theorem u8_mul_add (a b:UInt8) (ha:a.toNat≤15) (hb:b.toNat≤15):((16*a+b:UInt8).toNat:Int)=16*(a.toNat:Int)+(b.toNat:Int):=by
 simp;omega
theorem u8_shl4_or (a b:UInt8) (ha:a.toNat≤15) (hb:b.toNat≤15):bits BinOp.or IntKind.u8 (IntKind.u8.wrap ((a.toNat:Int)*16)) (b.toNat:Int)=((16*a+b:UInt8).toNat:Int):=by
 rw[u8_mul_add a b ha hb]
 have:=u8_shl4_or_all ⟨a.toNat,by omega⟩ ⟨b.toNat,by omega⟩
 simp only at this
 rw[this];omega
theorem bcells_snoc (l:List UInt8) (b:UInt8):bcells (l ++ [b])=bcells l ++ [.int .u8 (b.toNat:Int)]:=by simp[bcells]
theorem pack_step (s:ByteArray) (m k:Nat) (hm:m=2*k) (h:m+1<s.size):pack (s.data.toList.take (2*(k+1)))=pack (s.data.toList.take (2*k)) ++ [16*s[m]+s[m+1]]:=by
 subst hm
 rw[pack_snoc k s.data.toList (by simpa using h)]
 rfl
theorem isNibs_byte (s:ByteArray) (h:isNibs s.data.toList=true) (m:Nat) (hm:m<s.size):s[m].toNat≤15 :=
 isNibs_at s.data.toList h m (by simpa using hm)
theorem conv_news (W:World) (B:Nat) (hB:W.heap.size=B) (s:ByteArray) (cap:Nat) (t:TypeId) (fr:Nat × Nat) (j:Nat) (u:Value) (hu:(bcells s.data.toList)[j]? = some u) :
 (W.alloc (.cells (bytesRow s cap) t fr)).drew.cell? ((⟨B,0,none⟩:Addr).add j)=some u:=by
 subst hB
 have hj:j<s.data.size:=by
  have:=(List.getElem?_eq_some_iff.1 hu).1
  simpa [bcells] using this
 rw[add_none]
 show (W.alloc (.cells (bytesRow s cap) t fr)).cell? ⟨W.heap.size,j,none⟩=some u
 rw[World.cell?_alloc_mark,bytesRow_at s cap j hj]
 simp only[bcells,List.getElem?_map,Array.getElem?_toList,Array.getElem?_eq_getElem hj,Option.map_some] at hu
 exact hu
theorem bcells_one (l:List UInt8):∀ u∈bcells l,u.oneCell'=true:=by
 intro u hu
 simp only[bcells,List.mem_map] at hu
 obtain⟨b,_,rfl⟩:=hu
 rfl
theorem own_shape {w:World} {base e size n:Nat} {v:Value} {xs:List Value} (h:w.ownsRow base e size v n xs) (hn:v≠.slice none 0 0):∃ g cap,v=.slice (some ⟨g,0,none⟩) n cap:=by
 rcases h.2 with ⟨h',_⟩ | ⟨g,cap,_,h',_⟩
 · exact absurd h' hn
 · exact⟨g,cap,h'⟩
theorem own_lt {w:World} {base e size g n cap:Nat} {xs:List Value} (h:w.ownsRow base e size (.slice (some ⟨g,0,none⟩) n cap) n xs):g<w.heap.size:=by
 rcases h.2 with ⟨h',_⟩ | ⟨g',cap',cur,h',_,hg,_⟩
 · simp at h'
 · simp only[Value.slice.injEq,Option.some.injEq,Addr.mk.injEq,and_true,true_and] at h'
   obtain⟨rfl,rfl⟩:=h'
   exact (Array.getElem?_eq_some_iff.1 hg).1
theorem own_byte {w wr:World} {base e g n cap:Nat} {l:List UInt8} (h:w.ownsRow base e 1 (.slice (some ⟨g,0,none⟩) n cap) n (bcells l)) (hb:Below w.heap.size w wr) (j:Nat) (hj:j<l.length) :
 wr.cell? ⟨g,j,none⟩=some (.int .u8 (l[j].toNat:Int)):=by
 have hn:n=l.length:=by have:=h.1;simp[bcells] at this;omega
 rw[hb.cell (p:=⟨g,j,none⟩) (own_lt h),h.cellAt j (by omega)]
 simp[bcells,List.getElem?_eq_getElem hj]
theorem pack_step' (l:List UInt8) (m k:Nat) (hm:m=2*k) (h:m+1<l.length):pack (l.take (2*(k+1)))=pack (l.take (2*k)) ++ [16*l[m]+l[m+1]]:=by
 subst hm
 exact pack_snoc k l h
theorem withFlag_odd (l:List UInt8) (leaf:Bool) (h:l.length % 2=1):withFlag l leaf=(if leaf then 3 else 1) :: l:=by simp[withFlag,h]
theorem withFlag_even (l:List UInt8) (leaf:Bool) (h:l.length % 2=0):withFlag l leaf=(if leaf then 2 else 0) :: 0 :: l:=by simp[withFlag,h]
theorem heap_alloc_at (W:World) (o:Obj) (B:Nat) (h:W.heap.size=B):(W.alloc o).heap[B]? = some o:=by
 subst h;exact heap_alloc_new W o
theorem u8_mul_add_wrap (a b:UInt8):IntKind.u8.wrap (IntKind.u8.wrap (16*(a.toNat:Int))+(b.toNat:Int))=((16*a+b:UInt8).toNat:Int):=by
 simp[IntKind.wrap,IntKind.signed,IntKind.bits]
theorem i64_wrap_small (n:Int) (h0 : -1000000000000≤n) (h1:n≤1000000000000):IntKind.i64.wrap n=n:=by
 simp[IntKind.wrap,IntKind.signed,IntKind.bits];omega
def numB:Nat→Nat→List UInt8
 | 0,_=>[]
 | f+1,n=>if n=0 then [] else numB f (n / 256) ++ [UInt8.ofNat n]
def bigB (n k:Nat):List UInt8:=(List.range k).map fun j=>UInt8.ofNat (n / 2 ^ (8*(k - 1 - j)))
theorem bigB_length (n k:Nat):(bigB n k).length=k:=by simp[bigB]
theorem bigB_snoc (n k j:Nat) (h:j<k):(bigB n k).take (j+1)=(bigB n k).take j ++ [UInt8.ofNat (n / 2 ^ (8*(k - 1 - j)))]:=by
 rw[List.take_succ_eq_append_getElem (by simpa [bigB] using h)]
 simp[bigB]
theorem byte_of (n:Nat):((UInt8.ofNat n).toNat:Int)=(n:Int) % 256:=by
 rw[UInt8.toNat_ofNat'];simp
theorem byte_of_div (n e:Nat):((UInt8.ofNat (n / 2 ^ e)).toNat:Int)=(n:Int) / 2 ^ e % 256:=by
 rw[byte_of];simp
def strip:List UInt8→List UInt8
 | a :: b :: r=>if a=0 then strip (b :: r) else a :: b :: r
 | l=>l
theorem strip_zero (b:UInt8) (r:List UInt8):strip (0 :: b :: r)=strip (b :: r):=by simp[strip]
theorem strip_stop (l:List UInt8) (h:l.length≤1∨∃ a r,l=a :: r∧a≠0):strip l=l:=by
 rcases h with h | ⟨a,r,rfl,ha⟩
 · match l,h with
   | [],_=>rfl
   | [_],_=>rfl
   | _ :: _ :: _,h=>simp at h
 · cases r with
   | nil=>rfl
   | cons b r=>simp[strip,ha]
theorem numB_fuel:∀ (f n:Nat),n<256 ^ f→numB (f+1) n=numB f n
 | 0,n,h=>by simp at h;subst h;rfl
 | f + 1, n, h => by
   have e1:numB (f+1+1) n=if n=0 then [] else numB (f+1) (n / 256) ++ [UInt8.ofNat n]:=rfl
   have e2:numB (f+1) n=if n=0 then [] else numB f (n / 256) ++ [UInt8.ofNat n]:=rfl
   rw[e1,e2,numB_fuel f (n / 256) (by rw[Nat.pow_succ] at h;omega)]
theorem numB_step (f m:Nat) (h:m<256 ^ (f+1)) (h0:0<m):numB (f+1) m=numB f (m / 256) ++ [UInt8.ofNat m]∧m / 256<256 ^ f:=by
 rw[Nat.pow_succ] at h
 exact⟨by rw[numB,if_neg (by omega)],by omega⟩
theorem numB_zero (f:Nat):numB f 0=[]:=by cases f <;> simp[numB]
theorem ofNat_mod (n:Nat):UInt8.ofNat n=UInt8.ofNat (n % 256):=by
 apply UInt8.toNat_inj.1;simp
theorem numB_small (n:Nat) (h:0<n) (h1:n<256):numB 8 n=[UInt8.ofNat n]:=by
 rw[numB,if_neg (by omega),show n / 256=0 from by omega,numB_zero];rfl
theorem numB_two (n:Nat) (h:256≤n) (h1:n<65536):numB 8 n=[UInt8.ofNat (n / 256),UInt8.ofNat n]:=by
 rw[numB,if_neg (by omega),numB,if_neg (by omega),show n / 256 / 256=0 from by omega,numB_zero];rfl
theorem strip_bigB (n:Nat) (h:0<n) (h1:n<65536):strip (bigB n 4)=numB 8 n:=by
 have e:bigB n 4=[0,0,UInt8.ofNat (n / 256),UInt8.ofNat n]:=by
  have h3:n / 2 ^ 24=0:=by omega
  have h2:n / 2 ^ 16=0:=by omega
  simp only[bigB,List.range,List.range.loop,List.map_cons,List.map_nil]
  simp[h3,h2]
 rw[e,strip_zero,strip_zero]
 by_cases hs:n<256
 · have:n / 256=0:=by omega
   rw[numB_small n h hs,this]
   have:(UInt8.ofNat 0)=0:=rfl
   rw[this,strip_zero,strip_stop _ (.inl (by simp))]
 · rw[numB_two n (by omega) h1]
   refine strip_stop _ (.inr ⟨_,_,rfl,fun h0=>?_⟩)
   have:=congrArg UInt8.toNat h0
   simp at this
   omega
theorem i64_and255 (m:Nat) (hm:m<9223372036854775808):bits BinOp.and IntKind.i64 (m:Int) 255 % 256=((UInt8.ofNat m).toNat:Int):=by
 have hx:m &&& 255=m % 256:=Nat.and_two_pow_sub_one_eq_mod m 8
 have:bits BinOp.and IntKind.i64 (m:Int) 255=((m % 256:Nat):Int):=by
  show IntKind.i64.wrap ((BitVec.ofInt 64 (m:Int) &&& BitVec.ofInt 64 ((255:Nat):Int)).toNat:Int)=_
  rw[BitVec.toNat_and,ofInt_u64 m (by omega),ofInt_u64 255 (by omega),hx]
  simp[IntKind.wrap,IntKind.signed,IntKind.bits];omega
 rw[this,byte_of];omega
def wrapB (l:List UInt8) (h:Nat):List UInt8 :=
 if l.length≤55 then UInt8.ofNat (h+l.length) :: l else UInt8.ofNat (h+55+(numB 8 l.length).length) :: (numB 8 l.length ++ l)
theorem numB_length (n:Nat) (h:0<n) (h1:n<65536):(numB 8 n).length≤2:=by
 by_cases hs:n<256
 · rw[numB_small n h hs];simp
 · rw[numB_two n (by omega) h1];simp
theorem ba_cons (b:UInt8) (l:List UInt8):(ByteArray.mk #[b]) ++ ByteArray.mk l.toArray=⟨(b :: l).toArray⟩:=by
 apply ByteArray.ext;simp
theorem ba_eq (s:ByteArray):s=⟨s.data.toList.toArray⟩:=by
 apply ByteArray.ext;simp
theorem ba_app (a:List UInt8) (s:ByteArray):ByteArray.mk a.toArray ++ s=⟨(a ++ s.data.toList).toArray⟩:=by
 apply ByteArray.ext;simp
theorem ba_tail (l:List UInt8):(ByteArray.mk l.toArray).extract 1 l.length=⟨l.tail.toArray⟩:=by
 apply ByteArray.ext
 simp[ByteArray.extract,ByteArray.copySlice]
 exact List.take_of_length_le (by simp)
def valB (l:List UInt8):Nat:=l.foldl (fun n b=>256*n+b.toNat) 0
theorem valB_snoc (l:List UInt8) (b:UInt8):valB (l ++ [b])=256*valB l+b.toNat:=by simp[valB]
theorem valB_lt:∀ (k:Nat) (l:List UInt8),l.length≤k→valB l<256 ^ k:=by
 intro k
 induction k with
 | zero=>intro l h;have:l=[]:=List.length_eq_zero_iff.1 (by omega);subst this;decide
 | succ k ih =>
   intro l h
   by_cases hl:l=[]
   · subst hl;exact Nat.pow_pos (by decide)
   · rw[←List.dropLast_concat_getLast hl,valB_snoc]
     have h1:=ih l.dropLast (by simp;omega)
     have h2:=(l.getLast hl).toNat_lt
     rw[Nat.pow_succ]
     omega
theorem valB_take_snoc (l:List UInt8) (k:Nat) (h:k<l.length):valB (l.take (k+1))=256*valB (l.take k)+l[k].toNat:=by
 rw[List.take_succ_eq_append_getElem h,valB_snoc]
theorem valB_lt3 (l:List UInt8) (j:Nat) (hj:j≤3):valB (l.take j)<16777216:=by
 have h:(l.take j).length≤3:=by simp;omega
 exact valB_lt 3 _ h
def lenOf (n:Nat) (r:List UInt8):Option (Nat × List UInt8) :=
 if n≤55 then some (n,r)
 else if r.length<n - 55∨3<n - 55∨r.head? = some 0∨valB (r.take (n - 55))≤55 then none
 else some (valB (r.take (n - 55)),r.drop (n - 55))
def lone (n:Nat) (r:List UInt8):Bool:=match r with
 | b :: _=>decide (n=1) && decide (b.toNat<128)
 | []=>false
def takeL : List UInt8 → Option (Nat × List UInt8 × List UInt8)
 | []=>none
 | b :: r =>
   if b.toNat<128 then some (1,[b],r)
   else if b.toNat<192 then
    match lenOf (b.toNat - 128) r with
    | none=>none
    | some (n,r')=>if r'.length<n∨60000<n∨lone n r'=true then none else some (1,r'.take n,r'.drop n)
   else
    match lenOf (b.toNat - 192) r with
    | none=>none
    | some (n,r')=>if r'.length<n∨60000<n then none else some (2,r'.take n,r'.drop n)
theorem takeL_text (b:UInt8) (r:List UInt8) (h1:¬ b.toNat<128) (h2:b.toNat<192):takeL (b :: r)=match lenOf (b.toNat - 128) r with
 | none=>none
 | some (n,r')=>if r'.length<n∨60000<n∨lone n r'=true then none else some (1,r'.take n,r'.drop n):=by
 simp only[takeL];rw[if_neg h1,if_pos h2]
theorem takeL_list (b:UInt8) (r:List UInt8) (h2:¬ b.toNat<192):takeL (b :: r)=match lenOf (b.toNat - 192) r with
 | none=>none
 | some (n,r')=>if r'.length<n∨60000<n then none else some (2,r'.take n,r'.drop n):=by
 simp only[takeL];rw[if_neg (by omega),if_neg h2]
def tkV:Option (Nat × List UInt8 × List UInt8)→Value
 | none=>.tuple #[.int .i64 0,.string ⟨#[]⟩,.string ⟨#[]⟩,.bool false]
 | some (k,b,r)=>.tuple #[.int .i64 (k:Int),.string ⟨b.toArray⟩,.string ⟨r.toArray⟩,.bool true]
theorem ext_to (l:List UInt8) (n:Nat) (h:n≤l.length):(ByteArray.mk l.toArray).extract 0 n=⟨(l.take n).toArray⟩:=by
 apply ByteArray.ext
 simp[ByteArray.extract,ByteArray.copySlice]
theorem ext_from (l:List UInt8) (n:Nat) (h:n≤l.length):(ByteArray.mk l.toArray).extract n l.length=⟨(l.drop n).toArray⟩:=by
 apply ByteArray.ext
 simp[ByteArray.extract,ByteArray.copySlice]
 exact List.take_of_length_le (by simp)
theorem sl_to {P:Program} {t:TypeId} (ht:P.underlying t=some .string) (l:List UInt8) (x:Int) (n:Nat) (hx:x=(n:Int)) (h:n≤l.length) (W:World) :
 (Instr.slice t (.string ⟨l.toArray⟩) none (some (.int .i64 x)) none).run P W=.ok (.string ⟨(l.take n).toArray⟩) W:=by
 subst hx
 have hz:(ByteArray.mk l.toArray).size=l.length:=by simp[ByteArray.size]
 rw[run_slice_string_to_if W t _ _ _ ht,if_pos (by rw[hz];omega),Int.toNat_natCast,ext_to l n h]
theorem sl_from {P:Program} {t:TypeId} (ht:P.underlying t=some .string) (l:List UInt8) (x:Int) (n:Nat) (hx:x=(n:Int)) (h:n≤l.length) (W:World) :
 (Instr.slice t (.string ⟨l.toArray⟩) (some (.int .i64 x)) none none).run P W=.ok (.string ⟨(l.drop n).toArray⟩) W:=by
 subst hx
 have hz:(ByteArray.mk l.toArray).size=l.length:=by simp[ByteArray.size]
 rw[run_slice_string_from_if W t _ _ _ ht,if_pos (by rw[hz];omega),Int.toNat_natCast,hz,ext_from l n h]
theorem ix_at {P:Program} {t:TypeId} (ht:P.underlying t=some .string) (l:List UInt8) (x:Int) (n:Nat) (hx:x=(n:Int)) (h:n<l.length) (W:World) :
 (Instr.index t (.string ⟨l.toArray⟩) (.int .i64 x)).run P W=.ok (.int .u8 (l[n].toNat:Int)) W:=by
 subst hx
 have hz:(ByteArray.mk l.toArray).size=l.length:=by simp[ByteArray.size]
 rw[run_index_string W t _ _ _ ht,dif_pos (by rw[hz];omega)]
 rfl
theorem i64_or256 (x y:Nat) (hx:x<16777216) (hy:y<256):bits BinOp.or IntKind.i64 ((x:Int)*256) (y:Int)=((256*x+y:Nat):Int):=by
 have hj:x*256 ||| y=x*256+y:=nat_join 8 (x*256) y (by omega) (by omega)
 have e:((x:Int)*256)=((x*256:Nat):Int):=by omega
 rw[e]
 show IntKind.i64.wrap ((BitVec.ofInt 64 ((x*256:Nat):Int) ||| BitVec.ofInt 64 (y:Int)).toNat:Int)=_
 rw[BitVec.toNat_or,ofInt_u64 (x*256) (by omega),ofInt_u64 y (by omega),hj]
 simp[IntKind.wrap,IntKind.signed,IntKind.bits];omega
def bodyL (n:Nat) (r:List UInt8):Option (List UInt8 × List UInt8) :=
 match lenOf n r with
 | none=>none
 | some (n',r')=>if r'.length<n'∨60000<n' then none else some (r'.take n',r'.drop n')
theorem bodyL_short (n:Nat) (r:List UInt8) (h:n≤55):bodyL n r=if r.length<n then none else some (r.take n,r.drop n):=by
 rw[bodyL,lenOf,if_pos h]
 by_cases hf:r.length<n
 · rw[if_pos hf];simp only[if_pos (show r.length<n∨60000<n from .inl hf)]
 · rw[if_neg hf];simp only[if_neg (show ¬ (r.length<n∨60000<n) from by omega)]
theorem bodyL_long (m:Nat) (r:List UInt8) (hm:1≤m):bodyL (55+m) r=if r.length<m∨3<m∨r.head? = some 0 then none else
 if valB (r.take m)≤55∨60000<valB (r.take m)∨(r.drop m).length<valB (r.take m) then none else some ((r.drop m).take (valB (r.take m)),(r.drop m).drop (valB (r.take m))):=by
 rw[bodyL,lenOf,if_neg (by omega),show 55+m - 55=m from by omega]
 by_cases h1:r.length<m∨3<m∨r.head? = some 0
 · rw[if_pos h1,if_pos (by rcases h1 with h | h | h <;> simp[h])]
 · rw [if_neg h1]
   by_cases h2:valB (r.take m)≤55
   · rw[if_pos (.inr (.inr (.inr h2))),if_pos (.inl h2)]
   · rw[if_neg (by rintro (h | h | h | h);exact h1 (.inl h);exact h1 (.inr (.inl h));exact h1 (.inr (.inr h));exact h2 h)]
     by_cases h3:60000<valB (r.take m)∨(r.drop m).length<valB (r.take m)
     · simp only[if_pos (show (r.drop m).length<valB (r.take m)∨60000<valB (r.take m) from h3.symm)]
       rw[if_pos (.inr h3)]
     · simp only[if_neg (show ¬ ((r.drop m).length<valB (r.take m)∨60000<valB (r.take m)) from fun h=>h3 h.symm)]
       rw[if_neg (fun h=>h.elim h2 h3)]
def loneB:List UInt8→Bool
 | [c]=>decide (c.toNat<128)
 | _=>false
theorem lone_of (n:Nat) (r:List UInt8) (h:n≤r.length):lone n r=loneB (r.take n):=by
 match r,n,h with
 | [],0,_=>rfl
 | [],n+1,h=>simp at h
 | c :: r',0,_=>simp[lone,loneB]
 | c :: r',1,_=>simp[lone,loneB]
 | [c],n+2,h=>simp at h
 | c :: c' :: r',n+2,_=>simp[lone,loneB]
def itemL (k:Nat) (text:Bool):Option (List UInt8 × List UInt8)→Option (Nat × List UInt8 × List UInt8)
 | none=>none
 | some (bd,rest)=>if (text && loneB bd)=true then none else some (k,bd,rest)
theorem takeL_item1 (b:UInt8) (r:List UInt8) (h1:¬ b.toNat<128) (h2:b.toNat<192):takeL (b :: r)=itemL 1 true (bodyL (b.toNat - 128) r):=by
 rw[takeL_text b r h1 h2,bodyL]
 cases lenOf (b.toNat - 128) r with
 | none=>rfl
 | some x =>
   obtain⟨n,r'⟩:=x
   by_cases h:r'.length<n∨60000<n
   · simp only[if_pos h,itemL];rw[if_pos (by rcases h with h | h <;> simp[h])]
   · simp only[if_neg h,itemL,Bool.true_and]
     rw[lone_of n r' (by omega)]
     by_cases hl:loneB (r'.take n)=true
     · rw[if_pos (.inr (.inr hl)),if_pos hl]
     · rw[if_neg (by simp only[hl,Bool.false_eq_true,or_false];exact h),if_neg hl]
theorem takeL_item2 (b:UInt8) (r:List UInt8) (h2:¬ b.toNat<192):takeL (b :: r)=itemL 2 false (bodyL (b.toNat - 192) r):=by
 rw[takeL_list b r h2,bodyL]
 cases lenOf (b.toNat - 192) r with
 | none=>rfl
 | some x =>
   obtain⟨n,r'⟩:=x
   by_cases h:r'.length<n∨60000<n
   · simp only[if_pos h,itemL]
   · simp only[if_neg h,itemL,Bool.false_and,Bool.false_eq_true,if_false]
def textB (l:List UInt8):List UInt8:=match l with
 | [b]=>if b.toNat<128 then [b] else wrapB [b] 128
 | l=>wrapB l 128
def rlpText (l:List UInt8):List UInt8:=if l.length≤60000 then textB l else []
theorem textB_one (s:ByteArray) (h:s.size=1) (hb:(s[0]'(by omega)).toNat<128):textB s.data.toList=s.data.toList:=by
 have e:s.data.toList=[s[0]'(by omega)]:=by
  apply List.ext_getElem
  · simpa using h
  · intro i h1 h2
    simp at h2;subst h2;rfl
 rw[e,textB,if_pos hb]
theorem textB_head (s:ByteArray) (h:s.size=1) (hb:¬ (s[0]'(by omega)).toNat<128):textB s.data.toList=wrapB s.data.toList 128:=by
 have e:s.data.toList=[s[0]'(by omega)]:=by
  apply List.ext_getElem
  · simpa using h
  · intro i h1 h2
    simp at h2;subst h2;rfl
 rw[e,textB,if_neg hb]
theorem textB_more (l:List UInt8) (h:l.length≠1):textB l=wrapB l 128:=by
 match l,h with
 | [],_=>rfl
 | [_],h=>simp at h
 | _ :: _ :: _,_=>rfl
theorem ofNat_join (x:Nat) (b:UInt8):UInt8.ofNat (256*x+b.toNat)=b:=by
 apply UInt8.toNat_inj.1
 have:=b.toNat_lt
 simp
theorem numB_valB : ∀ (f : Nat) (q : List UInt8), q.length ≤ f → q.head? ≠ some 0 → numB f (valB q) = q := by
 intro f
 induction f with
 | zero=>intro q h _;have:q=[]:=List.length_eq_zero_iff.1 (by omega);subst this;rfl
 | succ f ih =>
   intro q h hq
   by_cases hn:q=[]
   · subst hn;rfl
   · obtain⟨p,b,rfl⟩:∃ p b,q=p ++ [b]:=⟨q.dropLast,q.getLast hn,(List.dropLast_concat_getLast hn).symm⟩
     have hb:=b.toNat_lt
     rw[valB_snoc]
     by_cases hp:p=[]
     · subst hp
       have hb0:b≠0:=fun e=>hq (by simp[e])
       have hb1:b.toNat≠0:=fun e=>hb0 (UInt8.toNat_inj.1 (by simpa using e))
       have e0:valB []=0:=rfl
       rw[e0,numB,if_neg (by omega),show (256*0+b.toNat) / 256=0 from by omega,numB_zero,ofNat_join]
     · have ih':=ih p (by simp at h;omega) (by
        cases p with
        | nil=>exact absurd rfl hp
        | cons c r=>simpa using hq)
       have hv:valB p≠0:=fun e=>by rw[e,numB_zero] at ih';exact hp ih'.symm
       rw[numB,if_neg (by omega),show (256*valB p+b.toNat) / 256=valB p from by omega,ih',ofNat_join]
theorem valB_numB (n:Nat) (h:0<n) (h1:n<65536):valB (numB 8 n)=n∧1≤(numB 8 n).length∧(numB 8 n).length≤2∧(numB 8 n).head?≠some 0:=by
 by_cases hs:n<256
 · rw[numB_small n h hs]
   refine⟨by simp[valB];omega,by simp,by simp,fun e=>?_⟩
   simp only[List.head?_cons,Option.some.injEq] at e
   have:=congrArg UInt8.toNat e
   simp at this;omega
 · rw[numB_two n (by omega) h1]
   refine⟨by simp[valB];omega,by simp,by simp,fun e=>?_⟩
   simp only[List.head?_cons,Option.some.injEq] at e
   have:=congrArg UInt8.toNat e
   simp at this;omega
theorem take_app (l r:List UInt8):(l ++ r).take l.length=l:=by simp
theorem drop_app (l r:List UInt8):(l ++ r).drop l.length=r:=by simp
theorem bodyL_fore (l rest:List UInt8) (h:l.length≤55):bodyL l.length (l ++ rest)=some (l,rest):=by
 rw[bodyL_short _ _ h,if_neg (by simp),take_app,drop_app]
theorem bodyL_far (l rest:List UInt8) (h:55<l.length) (h1:l.length≤60000):bodyL (55+(numB 8 l.length).length) (numB 8 l.length ++ (l ++ rest))=some (l,rest):=by
 obtain⟨e1,e2,e3,e4⟩:=valB_numB l.length (by omega) (by omega)
 obtain⟨q,hq⟩:∃ q,q=numB 8 l.length:=⟨_,rfl⟩
 rw[←hq] at e1 e2 e3 e4 ⊢
 have hh:(q ++ (l ++ rest)).head?≠some 0:=by
  cases q with
  | nil=>simp at e2
  | cons c r=>simpa using e4
 rw[bodyL_long _ _ e2,if_neg (by rintro (x | x | x);simp at x;omega;omega;exact hh x),take_app,drop_app,e1,if_neg (by rintro (x | x | x);omega;omega;simp at x;omega),take_app,drop_app]
theorem bodyL_back (n : Nat) (r bd rest : List UInt8) (h : bodyL n r = some (bd, rest)) : bd.length ≤ 60000 ∧
 ((bd.length≤55∧n=bd.length∧bd ++ rest=r)∨(55<bd.length∧n=55+(numB 8 bd.length).length∧numB 8 bd.length ++ (bd ++ rest)=r)):=by
 by_cases h55:n≤55
 · rw[bodyL_short n r h55] at h
   by_cases hf:r.length<n
   · rw[if_pos hf] at h;cases h
   · rw[if_neg hf] at h;cases h
     have:(r.take n).length=n:=by simp;omega
     exact⟨by omega,.inl ⟨by omega,this.symm,List.take_append_drop _ _⟩⟩
 · obtain ⟨m, rfl⟩ : ∃ m, n = 55 + m := ⟨n - 55, by omega⟩
   rw[bodyL_long m r (by omega)] at h
   by_cases hl:r.length<m∨3<m∨r.head? = some 0
   · rw[if_pos hl] at h;cases h
   · rw [if_neg hl] at h
     by_cases hf:valB (r.take m)≤55∨60000<valB (r.take m)∨(r.drop m).length<valB (r.take m)
     · rw[if_pos hf] at h;cases h
     · rw [if_neg hf] at h; cases h
       have e:((r.drop m).take (valB (r.take m))).length=valB (r.take m):=by rw[List.length_take];omega
       have hh:(r.take m).head?≠some 0:=by
        cases r with
        | nil=>simp
        | cons c r' =>
          obtain⟨m',rfl⟩:∃ m',m=m'+1:=⟨m - 1,by omega⟩
          intro x
          exact hl (.inr (.inr (by simpa using x)))
       have hlm:(r.take m).length=m:=by rw[List.length_take];omega
       have en:numB 8 (valB (r.take m))=r.take m:=numB_valB 8 _ (by omega) hh
       refine⟨by omega,.inr ⟨by omega,?_,?_⟩⟩
       · rw[e,en,hlm]
       · rw[e,en,List.take_append_drop,List.take_append_drop]
theorem ofNat_small (n:Nat) (h:n<256):(UInt8.ofNat n).toNat=n:=by rw[UInt8.toNat_ofNat'];omega
theorem takeL_list_fore (l rest:List UInt8) (h:l.length≤60000):takeL (wrapB l 192 ++ rest)=some (2,l,rest):=by
 unfold wrapB
 by_cases hs:l.length≤55
 · rw[if_pos hs,List.cons_append,takeL_item2 _ _ (by rw[ofNat_small _ (by omega)];omega),ofNat_small _ (by omega),Nat.add_sub_cancel_left,bodyL_fore l rest hs]
   rfl
 · have hb:=(valB_numB l.length (by omega) (by omega)).2.2.1
   rw[if_neg hs,List.cons_append,takeL_item2 _ _ (by rw[ofNat_small _ (by omega)];omega),ofNat_small _ (by omega),Nat.add_assoc,Nat.add_sub_cancel_left,List.append_assoc,bodyL_far l rest (by omega) h]
   rfl
theorem takeL_text_fore (l rest:List UInt8) (h:l.length≤60000):takeL (textB l ++ rest)=some (1,l,rest):=by
 have main:loneB l=false→takeL (wrapB l 128 ++ rest)=some (1,l,rest):=by
  intro hl
  unfold wrapB
  by_cases hs:l.length≤55
  · rw[if_pos hs,List.cons_append,takeL_item1 _ _ (by rw[ofNat_small _ (by omega)];omega) (by rw[ofNat_small _ (by omega)];omega),ofNat_small _ (by omega),Nat.add_sub_cancel_left,bodyL_fore l rest hs]
    simp[itemL,hl]
  · have hb:=(valB_numB l.length (by omega) (by omega)).2.2.1
    rw[if_neg hs,List.cons_append,takeL_item1 _ _ (by rw[ofNat_small _ (by omega)];omega) (by rw[ofNat_small _ (by omega)];omega),ofNat_small _ (by omega),Nat.add_assoc,Nat.add_sub_cancel_left,List.append_assoc,bodyL_far l rest (by omega) h]
    simp[itemL,hl]
 match l with
 | []=>exact main rfl
 | [b] =>
   by_cases hb:b.toNat<128
   · have e:textB [b]=[b]:=if_pos hb
     rw[e]
     show takeL (b :: rest)=_
     simp only[takeL]
     rw[if_pos hb]
   · have e:textB [b]=wrapB [b] 128:=if_neg hb
     rw[e]
     exact main (by simp[loneB];omega)
 | _ :: _ :: _=>exact main rfl
theorem item_in (k':Nat) (t:Bool) (o:Option (List UInt8 × List UInt8)) (k:Nat) (bd more:List UInt8) (ho:itemL k' t o=some (k,bd,more)):o=some (bd,more)∧k=k'∧(t && loneB bd)=false:=by
 cases o with
 | none=>cases ho
 | some x =>
   obtain⟨p,q⟩:=x
   simp only[itemL] at ho
   by_cases hc:(t && loneB p)=true
   · rw[if_pos hc] at ho;cases ho
   · rw[if_neg hc] at ho;cases ho;exact⟨rfl,rfl,by simpa using hc⟩
theorem byte_is (b:UInt8) (n:Nat) (h:n=b.toNat):UInt8.ofNat n=b:=by
 apply UInt8.toNat_inj.1
 have:=b.toNat_lt
 rw[ofNat_small _ (by omega),h]
theorem wrapB_of (b:UInt8) (r bd rest:List UInt8) (h:Nat) (hb:h≤b.toNat) (hd:bodyL (b.toNat - h) r=some (bd,rest)):wrapB bd h ++ rest=b :: r∧bd.length≤60000:=by
 obtain⟨h1,h2⟩:=bodyL_back _ _ _ _ hd
 refine⟨?_,h1⟩
 rcases h2 with ⟨ha,hn,hr⟩ | ⟨ha,hn,hr⟩
 · rw[wrapB,if_pos ha,List.cons_append,hr,byte_is b _ (by omega)]
 · rw[wrapB,if_neg (by omega),List.cons_append,List.append_assoc,hr,byte_is b _ (by omega)]
theorem textB_lone (l:List UInt8) (h:loneB l=false):textB l=wrapB l 128:=by
 match l,h with
 | [],_=>rfl
 | [b],h=>exact if_neg (by simpa [loneB] using h)
 | _ :: _ :: _,_=>rfl
theorem takeL_text_back (l v more:List UInt8) (h:takeL l=some (1,v,more)):textB v ++ more=l∧v.length≤60000:=by
 match l,h with
 | [],h=>cases h
 | b :: r, h =>
   by_cases h1:b.toNat<128
   · have e:takeL (b :: r)=some (1,[b],r):=by simp only[takeL];rw[if_pos h1]
     rw[e] at h;cases h
     exact⟨by simp[textB,h1],by simp⟩
   · by_cases h2:b.toNat<192
     · rw[takeL_item1 b r h1 h2] at h
       obtain⟨ho,_,hl⟩:=item_in _ _ _ _ _ _ h
       rw[textB_lone v (by simpa using hl)]
       exact wrapB_of b r v more 128 (by omega) ho
     · rw[takeL_item2 b r h2] at h
       obtain⟨_,hk,_⟩:=item_in _ _ _ _ _ _ h
       omega
theorem takeL_list_back (l v more:List UInt8) (h:takeL l=some (2,v,more)):wrapB v 192 ++ more=l∧v.length≤60000:=by
 match l,h with
 | [],h=>cases h
 | b :: r, h =>
   by_cases h1:b.toNat<128
   · have e:takeL (b :: r)=some (1,[b],r):=by simp only[takeL];rw[if_pos h1]
     rw[e] at h;cases h
   · by_cases h2:b.toNat<192
     · rw[takeL_item1 b r h1 h2] at h
       obtain⟨_,hk,_⟩:=item_in _ _ _ _ _ _ h
       omega
     · rw[takeL_item2 b r h2] at h
       obtain⟨ho,_,_⟩:=item_in _ _ _ _ _ _ h
       exact wrapB_of b r v more 192 (by omega) ho
theorem wrapB_len (l:List UInt8) (h:Nat) (hl:l.length<65536):(wrapB l h).length≤l.length+3:=by
 unfold wrapB
 by_cases hs:l.length≤55
 · rw[if_pos hs];simp
 · have:=(valB_numB l.length (by omega) hl).2.2.1
   rw[if_neg hs];simp;omega
theorem textB_len (l:List UInt8) (hl:l.length<65536):(textB l).length≤l.length+3:=by
 by_cases h:loneB l=false
 · rw[textB_lone l h];exact wrapB_len l 128 hl
 · match l,h with
   | [],h=>simp[loneB] at h
   | [b],h=>simp only[textB];split <;> simp[wrapB]
   | _ :: _ :: _,h=>simp[loneB] at h
def scells (ls:List (List UInt8)):List Value:=ls.map fun l=>.string ⟨l.toArray⟩
theorem scells_length (ls:List (List UInt8)):(scells ls).length=ls.length:=by simp[scells]
theorem scells_snoc (ls:List (List UInt8)) (l:List UInt8):scells (ls ++ [l])=scells ls ++ [.string ⟨l.toArray⟩]:=by simp[scells]
theorem own_cases {w:World} {base e n:Nat} {v:Value} {xs:List Value} (h:w.ownsRow base e 1 v n xs) :
 (v=.slice none 0 0∧n=0∧xs=[])∨∃ g cap,v=.slice (some ⟨g,0,none⟩) n cap∧base≤g∧g<w.heap.size∧(∀ j,j<n→w.cell? ⟨g,j,none⟩=xs[j]?)∧(∀ j,w.frozen? ⟨g,j,none⟩=false):=by
 rcases h.2 with ⟨h',h0⟩ | ⟨g,cap,cur,h',hb,hg,_⟩
 · exact .inl ⟨h',h0,List.length_eq_zero_iff.1 (by rw[h.1,h0])⟩
 · subst h'
   exact .inr ⟨g,cap,rfl,hb,(Array.getElem?_eq_some_iff.1 hg).1,fun j hj=>h.cellAt j (by omega),fun j=>h.frozenAt j⟩
theorem own_slice {w:World} {base e n:Nat} {v:Value} {xs:List Value} (h:w.ownsRow base e 1 v n xs):∃ a m c,v=.slice a m c:=by
 rcases h.2 with ⟨h',h0⟩ | ⟨g,cap,cur,h',_⟩
 · exact⟨_,_,_,h'⟩
 · exact⟨_,_,_,h'⟩
theorem hidOwn {w:World} {base e size n:Nat} {v:Value} {xs:List Value} (h:w.ownsRow base e size v n xs):Hid (w.ownsRow base e size v n xs):=h
def vlen:Value→Nat
 | .slice _ n _=>n
 | _=>0
theorem own_vlen {w:World} {base e n:Nat} {v:Value} {xs:List Value} (h:w.ownsRow base e 1 v n xs):vlen v=n:=by
 rcases h.2 with ⟨h',h0⟩ | ⟨g,cap,cur,h',_⟩
 · subst h';exact h0.symm
 · subst h';rfl
theorem scells_at (ls:List (List UInt8)) (j:Nat) (h:j<ls.length):(scells ls)[j]? = some (.string ⟨ls[j].toArray⟩):=by simp[scells,h]
def decF:Nat→Nat→List UInt8
 | 0,_=>[]
 | f+1,n=>if n=0 then [] else decF f (n / 10) ++ [UInt8.ofNat (48+n % 10)]
def markT (n:Nat):List UInt8:=109 :: decF 20 n
theorem decF_zero (f:Nat):decF f 0=[]:=by cases f <;> simp[decF]
theorem decF_step (f m:Nat) (h:m<10 ^ (f+1)) (h0:0<m):decF (f+1) m=decF f (m / 10) ++ [UInt8.ofNat (48+m % 10)]∧m / 10<10 ^ f:=by
 rw[Nat.pow_succ] at h
 exact⟨by rw[decF,if_neg (by omega)],by omega⟩
def marks (k n:Nat):List (List UInt8):=(List.range n).map fun j=>markT (k+j)
theorem marks_length (k n:Nat):(marks k n).length=n:=by simp[marks]
theorem marks_at (k n j:Nat) (h:j<n):(marks k n)[j]? = some (markT (k+j)):=by simp[marks,h]
def marked (k j:Nat) (ls:List (List UInt8)):List (List UInt8):=marks k j ++ ls.drop j
theorem marked_zero (k:Nat) (ls:List (List UInt8)):marked k 0 ls=ls:=by simp[marked,marks]
theorem marked_all (k:Nat) (ls:List (List UInt8)):marked k ls.length ls=marks k ls.length:=by simp[marked]
theorem marked_length (k j:Nat) (ls:List (List UInt8)) (h:j≤ls.length):(marked k j ls).length=ls.length:=by simp[marked,marks];omega
theorem marked_step (k j:Nat) (ls:List (List UInt8)) (h:j<ls.length):(scells (marked k j ls)).set j (.string ⟨(markT (k+j)).toArray⟩)=scells (marked k (j+1) ls):=by
 apply List.ext_getElem?
 intro i
 rw[List.getElem?_set]
 by_cases hij:j=i
 · subst hij
   have hl:j<(scells (marked k j ls)).length:=by rw[scells_length,marked_length k j ls (by omega)];exact h
   rw[if_pos rfl,if_pos hl]
   simp only[scells,marked,marks,List.getElem?_map]
   rw[List.getElem?_append_left (by simp)]
   simp
 · simp only[if_neg hij,scells,marked,marks,List.getElem?_map]
   congr 1
   by_cases hi:i<j
   · rw[List.getElem?_append_left (by simpa using hi),List.getElem?_append_left (by simp;omega)]
     simp[hi,show i<j+1 from by omega]
   · rw[List.getElem?_append_right (by simpa using Nat.le_of_not_lt hi),List.getElem?_append_right (by simp;omega)]
     simp only[List.length_map,List.length_range,List.getElem?_drop]
     congr 1
     omega
theorem takeL_less (l : List UInt8) (k : Nat) (bd more : List UInt8) (h : takeL l = some (k, bd, more)) : more.length < l.length ∧ bd.length ≤ l.length := by
 match l,h with
 | [],h=>cases h
 | b :: r, h =>
   by_cases h1:b.toNat<128
   · have e:takeL (b :: r)=some (1,[b],r):=by simp only[takeL];rw[if_pos h1]
     rw[e] at h;cases h;simp
   · have hbl : ∀ n bd' rest', bodyL n r = some (bd', rest') → rest'.length ≤ r.length ∧ bd'.length ≤ r.length := by
      intro n bd' rest' hb
      by_cases h55:n≤55
      · rw[bodyL_short n r h55] at hb
        by_cases hf:r.length<n
        · rw[if_pos hf] at hb;cases hb
        · rw[if_neg hf] at hb;cases hb;simp;omega
      · obtain⟨m,rfl⟩:∃ m,n=55+m:=⟨n - 55,by omega⟩
        rw[bodyL_long m r (by omega)] at hb
        by_cases hl:r.length<m∨3<m∨r.head? = some 0
        · rw[if_pos hl] at hb;cases hb
        · rw[if_neg hl] at hb
          by_cases hf:valB (r.take m)≤55∨60000<valB (r.take m)∨(r.drop m).length<valB (r.take m)
          · rw[if_pos hf] at hb;cases hb
          · rw[if_neg hf] at hb;cases hb;simp;omega
     have hin:∀ k' t o,itemL k' t o=some (k,bd,more)→o=some (bd,more):=by
      intro k' t o ho
      cases o with
      | none=>cases ho
      | some x =>
        obtain⟨p,q⟩:=x
        simp only[itemL] at ho
        by_cases hc:(t && loneB p)=true
        · rw[if_pos hc] at ho;cases ho
        · rw[if_neg hc] at ho;cases ho;rfl
     by_cases h2:b.toNat<192
     · rw[takeL_item1 b r h1 h2] at h
       have:=hbl _ _ _ (hin _ _ _ h)
       simp;omega
     · rw[takeL_item2 b r h2] at h
       have:=hbl _ _ _ (hin _ _ _ h)
       simp;omega
def itemsF:Nat→List UInt8→Option (List (List UInt8))
 | _,[]=>some []
 | 0,_ :: _=>none
 | f + 1, b :: r => match takeL (b :: r) with
   | none=>none
   | some (_,_,more)=>(itemsF f more).map fun t=>(b :: r).take ((b :: r).length - more.length) :: t
theorem itemsF_nil (f:Nat):itemsF f []=some []:=by cases f <;> rfl
theorem itemsF_none (f:Nat) (b:UInt8) (r:List UInt8) (h:takeL (b :: r)=none):itemsF f (b :: r)=none:=by
 cases f with
 | zero=>rfl
 | succ f=>simp only[itemsF,h]
theorem itemsF_some (f:Nat) (b:UInt8) (r:List UInt8) (k:Nat) (bd more:List UInt8) (h:takeL (b :: r)=some (k,bd,more)) :
 itemsF (f+1) (b :: r)=(itemsF f more).map fun t=>(b :: r).take ((b :: r).length - more.length) :: t:=by simp only[itemsF,h]
def itemsL (l:List UInt8):Option (List (List UInt8)):=match takeL l with
 | some (2,body,[])=>itemsF body.length body
 | _=>none
theorem itemsL_none (l:List UInt8) (h:takeL l=none):itemsL l=none:=by simp only[itemsL,h]
theorem itemsL_kind (l:List UInt8) (k:Nat) (bd rest:List UInt8) (h:takeL l=some (k,bd,rest)) (hk:k≠2∨rest≠[]):itemsL l=none:=by
 simp only[itemsL,h]
 rcases hk with hk | hk
 · match k,hk with
   | 0,_=>rfl
   | 1,_=>rfl
   | 2,hk=>exact absurd rfl hk
   | k+3,_=>rfl
 · cases rest with
   | nil=>exact absurd rfl hk
   | cons a r=>split <;> simp_all
theorem itemsL_list (l bd:List UInt8) (h:takeL l=some (2,bd,[])):itemsL l=itemsF bd.length bd:=by simp only[itemsL,h]
def ItemsPost (w:World) (o:Option (List (List UInt8))) (e:Ending) (w':World):Prop:=match o with
 | none=>e=.returned (.tuple #[.slice none 0 0,.bool false])∧Below w.heap.size w w'
 | some ls=>∃ v,e=.returned (.tuple #[v,.bool true])∧w'.ownsRow w.heap.size 9 1 v ls.length (scells ls)∧Below w.heap.size w w'∧ls.length≤1048576
theorem items_uni {w w':World} {o:Option (List (List UInt8))} {e:Ending} (h:ItemsPost w o e w') :
 ∃ v,e=.returned (.tuple #[v,.bool o.isSome])∧w'.ownsRow w.heap.size 9 1 v (o.getD []).length (scells (o.getD []))∧Below w.heap.size w w'∧(o.getD []).length≤1048576:=by
 cases o with
 | none=>exact⟨_,h.1,World.ownsRow_nil _ _ _ _,h.2,by simp⟩
 | some ls=>exact h
theorem takeL_kind (l : List UInt8) (k : Nat) (bd rest : List UInt8) (h : takeL l = some (k, bd, rest)) : k = 1 ∨ k = 2 := by
 match l,h with
 | [],h=>cases h
 | b :: r, h =>
   by_cases h1:b.toNat<128
   · have e:takeL (b :: r)=some (1,[b],r):=by simp only[takeL];rw[if_pos h1]
     rw[e] at h;cases h;exact .inl rfl
   · have hin:∀ k' t o,itemL k' t o=some (k,bd,rest)→k=k':=by
      intro k' t o ho
      cases o with
      | none=>cases ho
      | some x =>
        obtain⟨p,q⟩:=x
        simp only[itemL] at ho
        by_cases hc:(t && loneB p)=true
        · rw[if_pos hc] at ho;cases ho
        · rw[if_neg hc] at ho;cases ho;rfl
     by_cases h2:b.toNat<192
     · rw[takeL_item1 b r h1 h2] at h;exact .inl (hin _ _ _ h)
     · rw[takeL_item2 b r h2] at h;exact .inr (hin _ _ _ h)
def isItemL (l:List UInt8):Bool:=match takeL l with
 | some (_,_,[])=>true
 | _=>false
theorem isItemL_yes (l:List UInt8) (k:Nat) (bd:List UInt8) (h:takeL l=some (k,bd,[])):isItemL l=true:=by simp only[isItemL,h]
theorem isItemL_none (l:List UInt8) (h:takeL l=none):isItemL l=false:=by simp only[isItemL,h]
theorem isItemL_more (l:List UInt8) (k:Nat) (bd:List UInt8) (a:UInt8) (r:List UInt8) (h:takeL l=some (k,bd,a :: r)):isItemL l=false:=by simp only[isItemL,h]
theorem flat_snoc (ls:List (List UInt8)) (j:Nat) (h:j<ls.length):(ls.take (j+1)).flatten=(ls.take j).flatten ++ ls[j]:=by
 rw[List.take_succ_eq_append_getElem h,List.flatten_append]
 congr 1
 exact List.append_nil _
theorem flat_le (ls:List (List UInt8)) (j:Nat):(ls.take j).flatten.length≤ls.flatten.length:=by
 have:ls.flatten=(ls.take j).flatten ++ (ls.drop j).flatten:=by rw[←List.flatten_append,List.take_append_drop]
 rw[this];simp
theorem each_le (ls:List (List UInt8)) (j:Nat) (h:j<ls.length):ls[j].length≤ls.flatten.length:=by
 have:=flat_le ls (j+1)
 rw[flat_snoc ls j h,List.length_append] at this
 omega
def listL (ls:List (List UInt8)):List UInt8:=if ls.flatten.length≤60000∧ls.all isItemL=true then wrapB ls.flatten 192 else []
theorem listL_yes (ls:List (List UInt8)) (h:ls.flatten.length≤60000) (hi:ls.all isItemL=true):listL ls=wrapB ls.flatten 192:=if_pos ⟨h,hi⟩
theorem listL_long (ls:List (List UInt8)) (j:Nat) (h:60000<(ls.take j).flatten.length):listL ls=[]:=if_neg fun hh=>by have:=flat_le ls j;omega
theorem listL_item (ls:List (List UInt8)) (j:Nat) (hj:j<ls.length) (h:isItemL ls[j]=false):listL ls=[]:=if_neg fun hh=>by
 have:=List.all_eq_true.1 hh.2 ls[j] (List.getElem_mem _)
 rw[h] at this;cases this
theorem all_snoc (ls:List (List UInt8)) (j:Nat) (h:j<ls.length) (h0:(ls.take j).all isItemL=true) (h1:isItemL ls[j]=true):(ls.take (j+1)).all isItemL=true:=by
 rw[List.take_succ_eq_append_getElem h,List.all_append,h0];simp[h1]
theorem ba_apps (a b:List UInt8):ByteArray.mk a.toArray ++ ByteArray.mk b.toArray=⟨(a ++ b).toArray⟩:=by
 apply ByteArray.ext;simp
theorem join_nil (ls:List (List UInt8)):Lib.join ls []=ls.flatten:=by
 unfold Lib.join
 induction ls with
 | nil=>rfl
 | cons a r ih => cases r with
   | nil=>simp[List.intercalate]
   | cons b r=>simp[List.intercalate,List.intersperse] at ih ⊢;exact ih
def laid (ls:List (List UInt8)) (j:Nat):List Value:=scells (ls.take j) ++ List.replicate (ls.length - j) (.string ⟨#[]⟩)
theorem laid_length (ls:List (List UInt8)) (j:Nat) (h:j≤ls.length):(laid ls j).length=ls.length:=by simp[laid,scells];omega
theorem laid_all (ls:List (List UInt8)):laid ls ls.length=scells ls:=by simp[laid]
theorem laid_step (ls:List (List UInt8)) (j:Nat) (h:j<ls.length):(laid ls j).set j (.string ⟨ls[j].toArray⟩)=laid ls (j+1):=by
 apply List.ext_getElem?
 intro i
 rw[List.getElem?_set]
 by_cases hij:j=i
 · subst hij
   rw[if_pos rfl,if_pos (by rw[laid_length ls j (by omega)];exact h)]
   unfold laid
   rw[List.getElem?_append_left (by rw[scells_length];simp;omega),scells,List.getElem?_map,List.getElem?_take,if_pos (by omega),List.getElem?_eq_getElem h]
   rfl
 · rw[if_neg hij]
   unfold laid
   by_cases hi:i<j
   · rw[List.getElem?_append_left (by rw[scells_length];simp;omega),List.getElem?_append_left (by rw[scells_length];simp;omega)]
     simp only[scells,List.getElem?_map,List.getElem?_take]
     rw[if_pos hi,if_pos (by omega)]
   · rw[List.getElem?_append_right (by rw[scells_length];simp;omega),List.getElem?_append_right (by rw[scells_length];simp;omega)]
     simp only[scells_length,List.length_take,List.getElem?_replicate]
     congr 1
     simp only[eq_iff_iff]
     omega
structure RowX (w:World) (base g n cap:Nat) (xs:List Value):Prop where
 len:xs.length=n
 low:base≤g
 lt:g<w.heap.size
 fit:n≤cap
 cells:∀ j,j<n→w.cell? ⟨g,j,none⟩=xs[j]?
 spare:∀ j,n≤j→j<cap→(w.cell? ⟨g,j,none⟩).isSome=true∧w.frozen? ⟨g,j,none⟩=false
theorem RowX.kept {w w':World} {base g n cap:Nat} {xs:List Value} {row:Option Nat} (h:RowX w base g n cap xs) (hg:w.grownBy w' row) (hr:some g≠row):RowX w' base g n cap xs:=by
 have hb:=hg.block g h.lt hr
 refine⟨h.len,h.low,Nat.lt_of_lt_of_le h.lt hg.size,h.fit,fun j hj=>?_,fun j h1 h2=>?_⟩
 · rw[World.cell?_of_block (w:=w) (a:=⟨g,j,none⟩) hb];exact h.cells j hj
 · rw[World.cell?_of_block (w:=w) (a:=⟨g,j,none⟩) hb,World.frozen?_of_block (w:=w) (a:=⟨g,j,none⟩) hb];exact h.spare j h1 h2
theorem RowX.below {w w':World} {base g n cap:Nat} {xs:List Value} (h:RowX w base g n cap xs) (hb:Below w.heap.size w w'):RowX w' base g n cap xs :=
 h.kept (row:=none) ⟨hb.os,hb.tape,hb.output,hb.size,fun k hk _=>hb.block k hk⟩ (by simp)
theorem RowX.alloc {w:World} {base g n cap:Nat} {xs:List Value} (h:RowX w base g n cap xs) (o:Obj):RowX (w.alloc o) base g n cap xs :=
 h.below ((Below.refl _ _).alloc (Nat.le_refl _) _)
theorem rowX_of {w:World} {base b1 e g n cap:Nat} {xs:List Value} (h:w.ownsRow b1 e 1 (.slice (some ⟨g,0,none⟩) n cap) n xs) (hb:base≤g):RowX w base g n cap xs:=by
 rcases h.2 with ⟨h',_⟩ | ⟨g',cap',cur,h',h1,h2,h3,h4,h5,h6⟩
 · cases h'
 · cases h'
   have hl:=h.1
   refine⟨by omega,hb,(Array.getElem?_eq_some_iff.1 h2).1,h3,fun j hj=>h.cellAt j (by omega),fun j hj1 hj2=>⟨?_,h.frozenAt j⟩⟩
   rw[cell_of_row w g j cur e _ h2,Array.getElem?_eq_getElem (by omega)]
   rfl
theorem setCells_other (b:Nat):∀ (vs:List Value) (o:Nat) (w:World) (k:Nat),k≠b→(w.setCells b o vs).heap[k]? = w.heap[k]?
 | [],_,_,_,_=>rfl
 | v :: r,o,w,k,h=>by rw[World.setCells,setCells_other b r (o+1) _ k h];exact heap_setCell_other w _ k v h
theorem setCells_size (b:Nat):∀ (vs:List Value) (o:Nat) (w:World),(w.setCells b o vs).heap.size=w.heap.size∧(w.setCells b o vs).os=w.os∧(w.setCells b o vs).tape=w.tape∧(w.setCells b o vs).output=w.output
 | [],_,_=>⟨rfl,rfl,rfl,rfl⟩
 | v :: r, o, w => by
   rw[World.setCells]
   obtain⟨h1,h2,h3,h4⟩:=setCells_size b r (o+1) (w.setCell ⟨b,o,none⟩ v)
   exact⟨h1.trans (by simp[World.setCell]),h2,h3,h4⟩
theorem append_x {P:Program} (w:World) {ops:Array Oper} {rest:List Oper} {o:Oper} {a:Act} {Q:Exit→Act→World→Prop}
 (hg:o.guard=none) (s x:Operand) (t:TypeId) (hop:o.op=Op.call { callee:=Callee.builtin Builtin.append,args:=#[s,x],argTypes:=#[t,t] })
 (e:TypeId) (i:TypeInfo) (z:Value) (bytes:Nat) (h1:P.underlying t=some (.slice e)) (h2:P.info? e=some i) (h3:i.zero=some z) (h4:i.size=1) (h5:i.bytes=bytes) (h6:z.cells.size=1)
 (base g n cap:Nat) (xs:List Value) (hs:a.eval s=.slice (some ⟨g,0,none⟩) n cap) (hR:RowX w base g n cap xs)
 (ad:Addr) (m c:Nat) (news:List Value) (hx:a.eval x=.slice (some ad) m c) (hn:news.length=m) (hc:∀ j u,news[j]? = some u→w.cell? (ad.add j)=some u) (h1c:∀ u∈news,u.oneCell'=true)
 (hm:0<m) (b1:n+m≤maxLen) (b2:(n+m)*bytes≤140737488355328) (hbw:base≤w.heap.size)
 (k:∀ g' cap' w',RowX w' base g' (n+m) cap' (xs ++ news)→w.grownBy w' (some g)→wpList P ops Q rest (a.put o.dst (.slice (some ⟨g',0,none⟩) (n+m) cap')) w') :
 wpList P ops Q (o :: rest) a w:=by
 refine wpList_append_arg w hg s x t hop e i z 1 bytes h1 h2 h3 h4 h5 h6 (by decide) g 0 n cap xs hs (by rw[hR.len];omega) (fun j u hj=>?_) ad m c news hx (by omega) hc h1c (fun hr j hj=>?_) b1 b2 (fun hr=>?_) (fun hr v' w' ho hgw=>?_)
 · have hj':j<n:=by have:=(List.getElem?_eq_some_iff.1 hj).1;rw[hR.len] at this;exact this
   rw[Nat.zero_add,hR.cells j hj'];exact hj
 · have:=hR.spare (n+j) (by omega) (by omega)
   simpa using this
 · have hsz:=setCells_size g news (0+n*1) w
   have hin:∀ j,j<news.length→(w.cell? ⟨g,0+n*1+j,none⟩).isSome=true:=fun j hj=>by
    have:=(hR.spare (n+j) (by omega) (by omega)).1
    simpa using this
   refine k g cap _ ⟨by rw[List.length_append,hR.len,hn],hR.low,by rw[hsz.1];exact hR.lt,hr,fun j hj=>?_,fun j hj1 hj2=>?_⟩ ⟨hsz.2.1,hsz.2.2.1,hsz.2.2.2,by rw[hsz.1];exact Nat.le_refl _,fun k' _ hk'=>setCells_other g news _ w k' (fun e=>hk' (by rw[e]))⟩
   · by_cases hjn:j<n
     · rw[World.cell?_setCells_out g news _ w ⟨g,j,none⟩ (fun _ _=>.inl (by simp;omega)),hR.cells j hjn,List.getElem?_append_left (by rw[hR.len];exact hjn)]
     · have:=World.cell?_setCells_in g news (0+n*1) w hin (j - n) (by omega)
       rw[show 0+n*1+(j - n)=j by omega] at this
       rw[this,List.getElem?_append_right (by rw[hR.len];omega),hR.len,List.getElem?_eq_getElem (by omega)]
   · rw[World.frozen?_setCells,World.cell?_setCells_out g news _ w ⟨g,j,none⟩ (fun _ _=>.inr (by simp;omega))]
     exact hR.spare j (by omega) hj2
 · rcases own_cases ho with ⟨rfl,h0,_⟩ | ⟨g',cap',rfl,hg1,hg2,hg3,hg4⟩
   · omega
   · exact k g' cap' w' (rowX_of ho (by omega)) ⟨hgw.os,hgw.tape,hgw.output,hgw.size,fun k' hk' _=>hgw.block k' hk' (by simp)⟩
theorem conv_row (W:World) (l:List UInt8) (base cap:Nat) (t:TypeId) (hb:base≤W.heap.size) (hc:l.length≤cap) :
 RowX (W.alloc (.cells (bytesRow ⟨l.toArray⟩ cap) t ((bytesRow ⟨l.toArray⟩ cap).size,(bytesRow ⟨l.toArray⟩ cap).size+1))) base W.heap.size l.length cap (bcells l):=by
 have hz:(bytesRow ⟨l.toArray⟩ cap).size=cap:=by simp[bytesRow,ByteArray.size];omega
 have hblk:=heap_alloc_new W (.cells (bytesRow ⟨l.toArray⟩ cap) t ((bytesRow ⟨l.toArray⟩ cap).size,(bytesRow ⟨l.toArray⟩ cap).size+1))
 refine⟨bcells_length l,hb,by simp,hc,fun j hj=>?_,fun j h1 h2=>⟨?_,?_⟩⟩
 · rw[cell_of_row _ _ j _ _ _ hblk,bytesRow_at ⟨l.toArray⟩ cap j (by simpa using hj)]
   simp[bcells,hj]
 · rw[cell_of_row _ _ j _ _ _ hblk,Array.getElem?_eq_getElem (by omega)]
   rfl
 · have hjz:j<(bytesRow ⟨l.toArray⟩ cap).size:=by omega
   unfold World.frozen?
   rw[hblk]
   generalize (bytesRow ⟨l.toArray⟩ cap).size=z at hjz ⊢
   simp;omega
theorem row_string {P:Program} {w:World} {base t e d g n cap:Nat} {l:List UInt8} (hs:P.underlying t=some (.slice e)) (he:P.underlying e=some (.int .u8)) (hd:P.underlying d=some .string)
 (h:RowX w base g n cap (bcells l)):(convert t d (.slice (some ⟨g,0,none⟩) n cap)).run P w=.ok (.string ⟨l.toArray⟩) w:=by
 have hn:l.length=n:=by rw[←bcells_length l];exact h.len
 subst hn
 refine run_convert_bytes_back w t d e ⟨g,0,none⟩ cap l hs he hd (fun j hj=>?_)
 rw[add_none,h.cells j hj]
 simp[bcells,hj]
theorem step_own {P:Program} {w:World} {ops:Array Oper} {o:Oper} {a:Act} {K:Act→World→Prop} {Q:Exit→Act→World→Prop} {E:Prop} (hg:o.guard=none) (s x:Operand) (t:TypeId)
 (ho:o.op=.call { callee:=.builtin .append,args:=#[s,x],argTypes:=#[t,t] })
 (base:Nat) (e:TypeId) (i:TypeInfo) (z:Value) (size bytes:Nat) (ht:P.underlying t=some (.slice e)) (hi:P.info? e=some i) (hz:i.zero=some z)
 (hsize:i.size=size) (hby:i.bytes=bytes) (hzs:z.cells.size=size) (hsz:0<size)
 (v:Value) (n:Nat) (xs:List Value) (hs:a.eval s=v) (hown:w.ownsRow base e size v n xs)
 (ad:Addr) (m c:Nat) (news:List Value) (hx:a.eval x=.slice (some ad) m c) (hl:news.length=m*size) (hnews:∀ j u,news[j]? = some u→w.cell? (ad.add j)=some u) (h1:∀ u∈news,u.oneCell'=true)
 (h63:n+m≤maxLen) (hbytes:(n+m)*bytes≤140737488355328) (hbase:base≤w.heap.size)
 (h:∀ v' w',w'.ownsRow base e size v' (n+m) (xs ++ news)→w.grownBy w' v.ownBlock→(v'=.slice none 0 0↔v=.slice none 0 0∧m=0)→K (a.put o.dst v') w') :
 if Region.wanted o (yielded ops a.tmps)=true then Oper.wp P o a w K Q else E:=by
 have hw:Region.wanted o (yielded ops a.tmps)=true:=by simp[Region.wanted,hg]
 rw[if_pos hw]
 exact wp_append_own w s x t ho base e i z size bytes ht hi hz hsize hby hzs hsz v n xs hs hown ad m c news hx hl hnews h1 h63 hbytes hbase h
end Go.Proofs.YtahocpjieffbaaaGreatDoor
