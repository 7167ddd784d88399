import Derived.Maps.OwnSet
import Derived.Maps.Views
import Derived.StringKeys
import Derived.Shelf.Abstract
import Derived.Deep.RegionLaw
import Derived.Laws.CopyRow
import Derived.Lib.AppendZerosOnto
import Derived.Lib.SliceRun
import Derived.Lib.Overlaps
import Derived.Shelf.Spec.SlicesInsertGrow
import Derived.Test.YthmlndmlnlfhnaaGreatDoorK82359047
import Derived.Test.YthmlndmlnlfhnaaGreatDoorK88e617fb
import Derived.Test.YthmlndmlnlfhnaaGreatDoorKc04492b9
set_option maxRecDepth 100000
set_option maxHeartbeats 16000000
namespace Go.Proofs.YthmlndmlnlfhnaaGreatDoor
open Go.Lib (hid)
open Go.RowKit Go.Maps Go.WideMaps
def yre (v:Value):Option (DataW Value × List MemPlace):=some (.held v,[])
def kS (s:ByteArray):Lit:=.string s.data.toList
theorem yoq {s t:ByteArray} (h:s≠t):kS s≠kS t:=by
 intro e;injection e with e;apply h;cases s;cases t;simp at e;rw [e]
def MapS (P:Program) (k:TypeId) (w:World) (b n c:Nat) (f:ByteArray→Option Value):Prop :=
 ∃ D:DataW Value,w.ownsMap P k yre b n D∧Maps.size D=c∧∀ s,Maps.has D (kS s)=(f s).isSome∧∀ z,D.atKey (kS s) (.held z) = .held ((f s).getD z)
section
variable {P:Program} {k t e:TypeId} {w w':World} {b n c:Nat} {f:ByteArray→Option Value} {s:ByteArray} {z:Value}
theorem MapS.made (P:Program) (k:TypeId) (w:World):MapS P k (w.alloc (.map #[] 0)) w.heap.size 0 0 (fun _=>none) :=
 ⟨.map [],World.ownsMap_made w P k yre,rfl,fun _=>⟨rfl,fun _=>rfl⟩⟩
theorem MapS.lt (h:MapS P k w b n c f):b<w.heap.size:=by obtain ⟨D,h1,_⟩:=h;exact h1.lt
theorem MapS.kept {row:Option Nat} (h:MapS P k w b n c f) (hg:w.grownBy w' row) (hne:some b≠row):MapS P k w' b n c f:=by
 obtain ⟨D,h1,h2⟩:=h;exact ⟨D,h1.kept hg hne,h2⟩
theorem MapS.below (h:MapS P k w b n c f) (hb:Below w.heap.size w w'):MapS P k w' b n c f:=h.kept (row:=none) (jbb hb) (by simp)
theorem MapS.congr {g:ByteArray→Option Value} (h:MapS P k w b n c f) (hg:∀ s,f s=g s):MapS P k w b n c g:=by
 have:f=g:=funext hg
 subst this;exact h
theorem MapS.look (h:MapS P k w b n c f) (hk:P.underlying k=some .string) (ht:P.underlying t=some (.map k e)) (hz:(zeroValue e).run P w = .ok z w) (hs:s.size≤maxLen) :
  (Instr.lookup t (.map (some b)) (.string s) false).run P w = .ok ((f s).getD z) w:=by
 obtain ⟨D,h1,_,h2⟩:=h;obtain ⟨v,ps,hrun,hv⟩:=h1.lookup (string_keyed hk) ht hz (zd:=.held z) (zp:=[]) rfl (keyOf_string_mk hk hs);have e1:D.atKey (Lit.string s.data.toList) (.held z) = .held ((f s).getD z):=(h2 s).2 z;have e2:(DataW.held v:DataW Value)=D.atKey (Lit.string s.data.toList) (.held z):=congrArg Prod.fst (Option.some.inj hv);rw [e1] at e2;injection e2 with e2;rw [hrun,e2]
theorem MapS.len (h:MapS P k w b n c f) (ht:P.underlying t=some (.map k e)) (ty:TypeId):(Builtin.len_ #[t] ty #[.map (some b)]).run P w = .ok (.int .i64 c) w:=by
 obtain ⟨D,h1,rfl,_⟩:=h;exact h1.len ht ty
theorem yph {D:DataW Value} (h1:w.ownsMap P k yre b n D) (h2:∀ s,Maps.has D (kS s)=(f s).isSome∧∀ z,D.atKey (kS s) (.held z) = .held ((f s).getD z)) (v:Value) (s x:ByteArray) :
  Maps.has (D.put (kS s) (.held v)) (kS x)=(if jap x s then some v else f x).isSome∧∀ z,(D.put (kS s) (.held v)).atKey (kS x) (.held z) = .held ((if jap x s then some v else f x).getD z):=by
 by_cases e:x=s
 ·subst e;rw [jdk];exact ⟨has_put_same h1.isMap (by simp [WideAt.IsKeyLit,kS]) _,fun z=>atKey_put_same h1.isMap (by simp [WideAt.IsKeyLit,kS]) _ _⟩
 ·rw [jek.2 e];exact ⟨(has_put_other (yoq e) _).trans (h2 x).1,fun z=>(atKey_put_other (yoq e) _ _).trans ((h2 x).2 z)⟩
theorem MapS.put (h:MapS P k w b n c f) (hk:P.underlying k=some .string) (ht:P.underlying t=some (.map k e)) (hs:s.size≤maxLen) (hn:n<maxLen) (v:Value) :
  ∃ w',(Instr.mapUpdate t (.map (some b)) (.string s) v).run P w = .ok () w'∧MapS P k w' b (n+1) (if (f s).isSome then c else c+1) (fun x=>if jap x s then some v else f x)∧w.grownBy w' (some b):=by
 obtain ⟨D,h1,rfl,h2⟩:=h;obtain ⟨w',hrun,ho,hg⟩:=h1.update (string_keyed hk) ht hn (keyOf_string_mk hk hs) (val:=v) (d:=.held v) (ps:=[]) rfl;refine ⟨w',hrun,⟨D.put (kS s) (.held v),ho,?_,yph h1 h2 v s⟩,hg⟩;rw [size_put (h1.tidy (string_keyed hk)),(h2 s).1]
theorem MapS.del (h:MapS P k w b n c f) (hk:P.underlying k=some .string) (ht:P.underlying t=some (.map k e)) (hs:s.size≤maxLen) (ty:TypeId) :
  ∃ w',(Builtin.delete_ #[t,k] ty #[.map (some b),.string s]).run P w = .ok (.tuple #[]) w'∧MapS P k w' b n (if (f s).isSome then c-1 else c) (fun x=>if jap x s then none else f x)∧w.grownBy w' (some b):=by
 obtain ⟨D,h1,rfl,h2⟩:=h;obtain ⟨w',hrun,ho,hg⟩:=h1.drop (string_keyed hk) ht (keyOf_string_mk hk hs) ty;refine ⟨w',hrun,⟨D.del (kS s),ho,?_,fun x=>?_⟩,hg.grown⟩
 ·have e1:=size_del (k:=kS s) (h1.tidy (string_keyed hk));rw [(h2 s).1] at e1;split at e1 <;> rename_i hh <;> simp [hh] <;> omega
 ·by_cases ex:x=s
  ·subst ex;simp only [jdk];exact ⟨has_del_same,fun z=>atKey_del_same _⟩
  ·simp only [jek.2 ex];exact ⟨(has_del_other (yoq ex)).trans (h2 x).1,fun z=>(atKey_del_other (yoq ex) _).trans ((h2 x).2 z)⟩
end
section
variable {P:Program} (w:World) {ops:Array Oper} {rest:List Oper} {o:Oper} {a:Act} {Q:Exit→Act→World→Prop}
theorem jlg (hg:o.guard=none) (m x:Operand) (t:TypeId) (hop:o.op=Op.lookup t m x false) (k e:TypeId) (hk:P.underlying k=some .string) (ht:P.underlying t=some (.map k e)) {z:Value} (hz:(zeroValue e).run P w = .ok z w)
  (b n c:Nat) (f:ByteArray→Option Value) (hm:a.eval m = .map (some b)) (hown:MapS P k w b n c f) (s:ByteArray) (hx:a.eval x = .string s) (hs:s.size≤maxLen) (v:Value) (hv:(f s).getD z=v)
  (hK:wpList P ops Q rest (a.put o.dst v) w):wpList P ops Q (o :: rest) a w:=by
 refine wpList_plain hg fun K' hK'=>?_;unfold Oper.wp;simp [execOp,hop,hm,hx,hown.look hk ht hz hs,hv,Result.andThen];exact hK' _ _ hK
theorem jgk (hg:o.guard=none) (m x v:Operand) (t:TypeId) (hop:o.op=Op.mapUpdate t m x v) (k e:TypeId) (hk:P.underlying k=some .string) (ht:P.underlying t=some (.map k e))
  (b n c:Nat) (f:ByteArray→Option Value) (hm:a.eval m = .map (some b)) (hown:MapS P k w b n c f) (s:ByteArray) (hx:a.eval x = .string s) (hs:s.size≤maxLen) (hn:n<maxLen) (val:Value) (hv:a.eval v=val)
  (hK:∀ w',MapS P k w' b (n+1) (if (f s).isSome then c else c+1) (fun x=>if jap x s then some val else f x)→w.grownBy w' (some b)→wpList P ops Q rest (a.put o.dst undef) w'):wpList P ops Q (o :: rest) a w:=by
 refine wpList_plain hg fun K' hK'=>?_;obtain ⟨w',hrun,r1,r2⟩:=hown.put hk ht hs hn val;unfold Oper.wp;simp [execOp,hop,hm,hx,hv,hrun,Result.andThen];exact hK' _ _ (hK w' r1 r2)
end
section
variable {P:Program} {ops:Array Oper} {o:Oper} {a:Act} {w:World} {K:Act→World→Prop} {Q:Exit→Act→World→Prop} {X:Prop}
theorem ym0 (hg:o.guard=none) (m x:Operand) (t k:TypeId) (hop:o.op=Op.call { callee:=Callee.builtin Builtin.delete,args:=#[m,x],argTypes:=#[t,k] }) (e:TypeId) (hk:P.underlying k=some .string) (ht:P.underlying t=some (.map k e))
  (b n c:Nat) (f:ByteArray→Option Value) (hm:a.eval m = .map (some b)) (hown:MapS P k w b n c f) (s:ByteArray) (hx:a.eval x = .string s) (hs:s.size≤maxLen)
  (hK:∀ w',MapS P k w' b n (if (f s).isSome then c-1 else c) (fun x=>if jap x s then none else f x)→w.grownBy w' (some b)→K (a.put o.dst (.tuple #[])) w') :
  if Region.wanted o (yielded ops a.tmps)=true then Oper.wp P o a w K Q else X:=by
 have hw:Region.wanted o (yielded ops a.tmps)=true:=by simp [Region.wanted,hg]
 rw [if_pos hw];obtain ⟨w',hrun,r1,r2⟩:=hown.del hk ht hs o.type;unfold Oper.wp;simp [execOp,hop,resolve,invoke,builtin,hm,hx,hrun,Result.andThen];exact hK w' r1 r2
end
def jkw (l:List ByteArray):ByteArray→Option Value:=fun s=>if hasN l s then some (.bool true) else none
theorem jtx (s:ByteArray):(fun _=>none:ByteArray→Option Value) s=jkw [] s:=rfl
theorem ydr (l m:List ByteArray) (s:ByteArray):hasN (l ++ m) s=(hasN l s || hasN m s):=by simp [hasN]
theorem jty (l:List ByteArray) (s x:ByteArray):(if jap x s then some (.bool true) else jkw l x)=jkw (l ++ [s]) x:=by
 unfold jkw;rw [ydr];have:hasN [s] x=jap x s:=by simp [hasN]
 rw [this];cases jap x s <;> cases hasN l x <;> rfl
theorem yji (l:List ByteArray) (s x:ByteArray):(if jap x s then none else jkw l x)=jkw (jke l s) x:=by
 unfold jkw;by_cases e:x=s
 ·subst e;rw [jdk,jdt.2 (fun h=>(jeg.1 h).2 rfl)];rfl
 ·rw [jek.2 e];have:hasN (jke l s) x=hasN l x:=by
   cases h:hasN l x
   ·rw [jdt] at h ⊢;exact fun hh=>h (jeg.1 hh).1
   ·rw [jej] at h ⊢;exact jeg.2 ⟨h,e⟩
  rw [this];rfl
theorem yjj (l:List ByteArray) (s:ByteArray):(jkw l s).getD (.bool false) = .bool (hasN l s):=by
 unfold jkw;cases hasN l s <;> rfl
theorem jwi (l:List ByteArray) (s:ByteArray):(jkw l s).isSome=hasN l s:=by
 unfold jkw;cases hasN l s <;> rfl
def jj8 (a:AnsD):Value:=.agg #[.string a.1,.bool a.2.1,.int .i64 a.2.2]
def ansF (k:ByteArray→Option AnsD):ByteArray→Option Value:=fun s=>(k s).map jj8
theorem ynq (k:ByteArray→Option AnsD) (s x:ByteArray) (a:AnsD):(if jap x s then some (jj8 a) else ansF k x)=ansF (putA k s a) x:=by
 unfold ansF putA;cases jap x s <;> rfl
theorem jya (k:ByteArray→Option AnsD) (s:ByteArray):(ansF k s).getD (jj8 jjg)=jj8 ((k s).getD jjg):=by
 unfold ansF;cases k s <;> rfl
theorem ya0 (k:ByteArray→Option AnsD) (s:ByteArray):((k s).getD jjg).2.1=jck k s:=by unfold jck jjg;cases k s <;> rfl
theorem yle (k:ByteArray→Option AnsD) (s:ByteArray):((k s).getD jjg).2.2=numA k s:=by unfold numA jjg;cases k s <;> rfl
open Go.Lib (hid)
open Go.RowKit Go.Shelf
theorem jrc:Tryz.prog.underlying 152=some (.map 9 4):=by kernel_rfl
theorem ysm (w:World):(zeroValue 4).run Tryz.prog w = .ok (.bool false) w:=by kernel_rfl
theorem yjg (w:World):(Instr.makeMap 152 none).run Tryz.prog w = .ok (.map (some w.heap.size)) (w.alloc (.map #[] 0)):=rfl
theorem jn8 {w:World} {b n c:Nat} {l:List ByteArray} (h:MapS Tryz.prog 9 w b n c (jkw l)) (s:ByteArray) (hs:s.size≤maxLen) :
  (Instr.lookup 152 (.map (some b)) (.string s) false).run Tryz.prog w = .ok (.bool (hasN l s)) w:=by
 rw [h.look Tryz.underlying9 jrc (ysm w) hs,yjj]
structure WaitAt (w:World) (M mb n c:Nat) (wait:List ByteArray):Prop where
 cell:w.cell? ⟨M,0,none⟩=some (.map (some mb))
 lt:M<w.heap.size
 map:MapS Tryz.prog 9 w mb n c (jkw wait)
theorem WaitAt.next {w w':World} {M mb n c:Nat} {wait:List ByteArray} (h:WaitAt w M mb n c wait) (hb:Below w.heap.size w w'):WaitAt w' M mb n c wait :=
 ⟨(hb.cell (p:=⟨M,0,none⟩) h.lt).trans h.cell,Nat.lt_of_lt_of_le h.lt hb.size,h.map.below hb⟩
theorem yp8 (wait:List ByteArray) (s:ByteArray) (w:World) (M mb n c:Nat) (h:WaitAt w M mb n c wait) (hs:s.size≤maxLen) :
  Calls Tryz.prog 127 #[.string s,.pointer (some ⟨M,0,none⟩)] w fun e w'=>e = .returned (.bool (hasN wait s))∧Below w.heap.size w w':=by
 have c1:=h.cell;have hl:=jn8 h.map s hs;generalize hasN wait s=R at *;go_enter Tryz.func127,Tryz.ntmps127
 go_wp2;go_ret;exact ⟨rfl,Below.refl _ _⟩
theorem ydu (wait:List ByteArray) (l:List ByteArray) (v:Value) (w:World) (M mb n c:Nat) (h:WaitAt w M mb n c wait) (hl:Sl Enc.str w (Old w) l v) (hs:∀ s,s∈l→s.size≤maxLen) :
  Calls Tryz.prog 166 #[v,.func (.func 127) #[] #[.pointer (some ⟨M,0,none⟩)]] w fun e w'=>(∃ j:Int,e = .returned (.int .i64 j)∧(0≤j)=(l.any (hasN wait)=true) ∧ -1≤j)∧Below w.heap.size w w':=by
 have H:=hid hl;have HW:=hid h;have HS:=hid hs;obtain ⟨A,cp,rfl,hc1,hc2,-⟩:=hl;unfold maxLen at hc2;clear h hs;have eg:∀ args w,(callFunc 127 args).run Tryz.prog w = .ok (.enter 127 args) w:=enters_of Tryz.func127 (by kernel_rfl) rfl;go_enter Tryz.func166,Tryz.ntmps166
 go_wp2;go_loopw [8] (fun i wr=>∃ k:Nat,k≤l.length∧i = .int .i64 k∧Hid ((l.take k).any (hasN wait)=false)∧Below w.heap.size w wr) (fun i _=>l.length-(intOf i).toNat)
 case atStart=>exact ⟨0,Nat.zero_le _,rfl,rfl,Below.refl _ _⟩
 case round =>
  obtain ⟨k,hk,rfl,hf,hb⟩:=hrel;by_cases hlt:k<l.length
  ·obtain ⟨b,o,x,rfl,_,hx,c1⟩:=(H.out.below (fun _ h=>h) hb).str_at hlt;have HX:=hid (HS.out x (List.mem_of_getElem? hx.out));have HW1:=hid (HW.out.next hb);go_wp2_with fail
   refine (yp8 wait x _ M mb n c HW1.out HX.out).mono ?_;rintro e w1 ⟨rfl,hb1⟩;have hb01:=bx hb hb1;cases hq:hasN wait x
   ·have HQ:=hid hq;clear hq;go_wp2;refine ⟨⟨k+1,by omega,by go_num,?_,hb01⟩,by simp [intOf];omega⟩
    show (l.take (k+1)).any (hasN wait)=false
    rw [jai hx.out,List.any_append,hf.out];simp only [List.any_cons,List.any_nil,Bool.or_false,Bool.false_or];exact HQ.out
   ·have HQ:=hid hq;clear hq;go_wp2;go_ret;refine ⟨⟨_,rfl,?_,by omega⟩,hb01⟩;have:l.any (hasN wait)=true:=List.any_eq_true.2 ⟨x,List.mem_of_getElem? hx.out,HQ.out⟩
    simp [this]
  ·go_wp2;go_ret;have e:l.take k=l:=List.take_of_length_le (by omega);have hf':=hf.out;rw [e] at hf';exact ⟨⟨_,rfl,by rw [hf'];simp,by omega⟩,hb⟩
theorem jvu (wait:List ByteArray) (l:List ByteArray) (v:Value) (w:World) (M mb n c:Nat) (h:WaitAt w M mb n c wait) (hl:Sl Enc.str w (Old w) l v) (hs:∀ s,s∈l→s.size≤maxLen) :
  Calls Tryz.prog 126 #[v,.func (.func 127) #[] #[.pointer (some ⟨M,0,none⟩)]] w fun e w'=>e = .returned (.bool (l.any (hasN wait)))∧Below w.heap.size w w':=by
 have H:=hid hl;have HW:=hid h;have HS:=hid hs;obtain ⟨A,cp,rfl,hc1,hc2,-⟩:=hl;clear h hs;go_enter Tryz.func126,Tryz.ntmps126
 go_wp2_with fail
 refine (ydu wait l _ _ M mb n c HW.out H.out HS.out).mono ?_;rintro e w1 ⟨⟨j,rfl,hj,hj1⟩,hb1⟩;have HJ:=hid hj;clear hj;go_wp2;go_ret;refine ⟨jad ?_,hb1⟩;have:=HJ.out
 by_cases h0:0≤j
 ·rw [this] at h0;rw [h0];simpa using (this ▸ h0:0≤j)
 ·have h1:¬ l.any (hasN wait)=true:=by rw [← this];exact h0
  rw [Bool.eq_false_iff.2 h1];simpa using h0
theorem jn0 {t:TabD} (h:jdm t):∀ s,s∈t.ins→s.size≤maxLen:=fun s hs=>by have:=h.2.1 s hs;unfold maxLen;omega
theorem je6 {t:TabD} (h:jdm t):t.name.size≤maxLen:=by have:=h.1;unfold maxLen;omega
theorem jyc (wait:List ByteArray) (t:TabD) (v:Value) (w:World) (mb n c:Nat) (h:MapS Tryz.prog 9 w mb n c (jkw wait)) (ht:ja9 w (Old w) t v) (hs:jdm t) :
  Calls Tryz.prog 88 #[v,.map (some mb)] w fun e w'=>e = .returned (.bool (jq5 wait t))∧Below w.heap.size w w':=by
 have HS:=hid (jn0 hs);have HM:=hid h;clear hs h;obtain ⟨nm,pol,comp,ins,rules⟩:=t;obtain ⟨vi,vr,rfl,hi,hr⟩:=ht;simp only at hi hr HS;have HE:Hid (jq5 wait ⟨nm,pol,comp,ins,rules⟩=ins.any (hasN wait)):=rfl;generalize jq5 wait ⟨nm,pol,comp,ins,rules⟩=R at *;have HI:=hid hi;obtain ⟨Ai,ci,rfl,hi1,hi2,-⟩:=hi;obtain ⟨Ar,cr,rfl,hr1,hr2,-⟩:=hr;have hb0:=jaa w (.cells #[.string nm,.int .i64 pol,.bool comp,.slice Ai ins.length ci,.slice Ar rules.length cr] 56);have C0:=hid (Cs.new w [.string nm,.int .i64 pol,.bool comp,.slice Ai ins.length ci,.slice Ar rules.length cr] 56);have hz0:(w.alloc (.cells #[.string nm,.int .i64 pol,.bool comp,.slice Ai ins.length ci,.slice Ar rules.length cr] 56)).heap.size=w.heap.size+1:=by simp
 change Hid (Cs (w.alloc (.cells #[.string nm,.int .i64 pol,.bool comp,.slice Ai ins.length ci,.slice Ar rules.length cr] 56)) _ _) at C0;generalize hw0:w.alloc (.cells #[.string nm,.int .i64 pol,.bool comp,.slice Ai ins.length ci,.slice Ar rules.length cr] 56)=w0 at *;have hb1:=jaa w0 (.cells #[.map (some mb)] 152);have C1:=hid (Cs.new w0 [.map (some mb)] 152);change Hid (Cs (w0.alloc (.cells #[.map (some mb)] 152)) _ _) at C1;rw [hz0] at C1;have C01:=hid (C0.out.next hb1);have k3:=C01.out.at 3 rfl;have hb01:=bx hb0 hb1;have HW:Hid (WaitAt (w0.alloc (.cells #[.map (some mb)] 152)) (w.heap.size+1) mb n c wait):=⟨C1.out.at 0 rfl,C1.out.1,HM.out.below hb01⟩;have HI1:=hid (HI.out.onOld hb01);generalize hw1:w0.alloc (.cells #[.map (some mb)] 152)=w1 at *;go_enter Tryz.func88,Tryz.ntmps88
 go_wp2_with fail
 clear hw0 hw1;refine (jvu wait ins _ _ (w.heap.size+1) mb n c HW.out HI1.out HS.out).mono ?_;rintro e w2 ⟨rfl,hb2⟩;go_wp2;go_ret;exact ⟨jad HE.out.symm,bx hb01 hb2⟩
theorem yo5 (wait:List ByteArray) (t:TabD) (v:Value) (w:World) (M mb n c:Nat) (h:WaitAt w M mb n c wait) (ht:ja9 w (Old w) t v) (hs:jdm t) :
  Calls Tryz.prog 87 #[v,.pointer (some ⟨M,0,none⟩)] w fun e w'=>e = .returned (.bool (jd6 wait t))∧Below w.heap.size w w':=by
 have HS:=hid hs;have HNM:=hid (je6 hs);have HW:=hid h;have HT:=hid ht;clear hs h;have HE:Hid (jd6 wait t=(hasN wait t.name && !jq5 wait t)):=rfl;generalize jd6 wait t=R at *;obtain ⟨vi,vr,rfl,hi,hr⟩:=ht;obtain ⟨Ai,ci,rfl,hi1,hi2,-⟩:=hi;obtain ⟨Ar,cr,rfl,hr1,hr2,-⟩:=hr;have hb0:=jaa w (.cells #[.string t.name,.int .i64 t.pol,.bool t.comp,.slice Ai t.ins.length ci,.slice Ar t.rules.length cr] 56);have C0:=hid (Cs.new w [.string t.name,.int .i64 t.pol,.bool t.comp,.slice Ai t.ins.length ci,.slice Ar t.rules.length cr] 56);change Hid (Cs (w.alloc (.cells #[.string t.name,.int .i64 t.pol,.bool t.comp,.slice Ai t.ins.length ci,.slice Ar t.rules.length cr] 56)) _ _) at C0;generalize hw0:w.alloc (.cells #[.string t.name,.int .i64 t.pol,.bool t.comp,.slice Ai t.ins.length ci,.slice Ar t.rules.length cr] 56)=w0 at *;have k0:=C0.out.at 0 rfl;have k1:=C0.out.at 1 rfl;have k2:=C0.out.at 2 rfl;have k3:=C0.out.at 3 rfl;have k4:=C0.out.at 4 rfl;have HW0:=hid (HW.out.next hb0);have HT0:=hid (HT.out.onOld hb0);have cM:=HW0.out.cell;have hl:=jn8 HW0.out.map t.name HNM.out;generalize hnn:hasN wait t.name=nn at *;have HNN:=hid hnn;clear hnn;cases nn
 ·have HR:Hid (R=false):=by show _=_;rw [HE.out];rfl
  go_enter Tryz.func87,Tryz.ntmps87
  go_wp2;go_ret;exact ⟨jad HR.out.symm,hb0⟩
 ·go_enter Tryz.func87,Tryz.ntmps87
  go_wp2_with fail
  refine (jyc wait t _ _ mb n c HW0.out.map HT0.out HS.out).mono ?_;rintro e w2 ⟨rfl,hb2⟩;have HE2:Hid (R = !jq5 wait t):=by show _=_;rw [HE.out];rfl
  clear HE;generalize jq5 wait t=q at *;cases q
  ·go_wp2;go_ret;exact ⟨jad HE2.out.symm,bx hb0 hb2⟩
  ·go_wp2;go_ret;exact ⟨jad HE2.out.symm,bx hb0 hb2⟩
open Go.Lib (hid)
open Go.RowKit Go.Shelf
theorem ydt (wait:List ByteArray) (l:List TabD) (v:Value) (w:World) (M mb n c:Nat) (h:WaitAt w M mb n c wait) (hl:Sl Enc.tab w (Old w) l v) (hs:∀ t,t∈l→jdm t) :
  Calls Tryz.prog 86 #[v,.func (.func 87) #[] #[.pointer (some ⟨M,0,none⟩)]] w fun e w'=>((e = .returned (.int .i64 (-1))∧Hid (l.find? (jd6 wait)=none))∨∃ (k:Nat) (t:TabD),e = .returned (.int .i64 k)∧k<l.length∧Hid (l[k]? = some t)∧Hid (l.find? (jd6 wait)=some t))∧Below w.heap.size w w':=by
 have H:=hid hl;have HW:=hid h;have HS:=hid hs;obtain ⟨A,cp,rfl,hc1,hc2,-⟩:=hl;unfold maxLen at hc2;clear h hs;have eg:∀ args w,(callFunc 87 args).run Tryz.prog w = .ok (.enter 87 args) w:=enters_of Tryz.func87 (by kernel_rfl) rfl;go_enter Tryz.func86,Tryz.ntmps86
 go_wp2;go_loopw [8] (fun i wr=>∃ k:Nat,k≤l.length∧i = .int .i64 k∧Hid ((l.take k).find? (jd6 wait)=none)∧Below w.heap.size w wr) (fun i _=>l.length-(intOf i).toNat)
 case atStart=>exact ⟨0,Nat.zero_le _,rfl,rfl,Below.refl _ _⟩
 case round =>
  obtain ⟨k,hk,rfl,hf,hb⟩:=hrel;by_cases hlt:k<l.length
  ·obtain ⟨b,o,nm,pol,comp,ins,rules,vi,vr,rfl,_,hx,c1,c2,c3,c4,c5,hi,hr⟩:=(H.out.onOld hb).tab_at hlt;have HT:Hid (ja9 wr (Old wr) ⟨nm,pol,comp,ins,rules⟩ (.agg #[.string nm,.int .i64 pol,.bool comp,vi,vr])):=⟨_,_,rfl,hi,hr⟩;obtain ⟨Ai,ci,rfl,-,-⟩:=hi.form;obtain ⟨Ar,cr,rfl,-,-⟩:=hr.form;clear hi hr;have HX:=hid (HS.out _ (List.mem_of_getElem? hx.out));have HW1:=hid (HW.out.next hb);go_wp2_with fail
   refine (yo5 wait ⟨nm,pol,comp,ins,rules⟩ _ _ M mb n c HW1.out HT.out HX.out).mono ?_;rintro e w1 ⟨rfl,hb1⟩;have hb01:=bx hb hb1;cases hq:jd6 wait ⟨nm,pol,comp,ins,rules⟩
   ·have HQ:=hid (jf3 hf.out hx.out hq);clear hq;go_wp2;exact ⟨⟨k+1,by omega,by go_num,HQ,hb01⟩,by simp [intOf];omega⟩
   ·have HQ:=hid (jlk hf.out hx.out hq);clear hq;go_wp2;go_ret;exact ⟨.inr ⟨k,_,rfl,hlt,hx,HQ⟩,hb01⟩
  ·have e:l.take k=l:=List.take_of_length_le (by omega);have hf':=hf.out;rw [e] at hf';have HQ:=hid hf';clear hf';go_wp2;go_ret;exact ⟨.inl ⟨rfl,HQ⟩,hb⟩
def lenV:Value→Nat
 | .slice _ n _=>n
 | _=>0
theorem ycl:Tryz.prog.underlying 39=some (.slice 9):=by kernel_rfl
theorem yf6:(Tryz.prog.info? 9).map (fun i=>(i.zero,i.size,i.bytes))=some (some (.string ⟨#[]⟩),1,16):=by kernel_rfl
theorem jp1 (w:World) (v:Value) (e:Nat):∀ j u,[v][j]? = some u→(w.alloc (.cells #[v] e)).cell? ((⟨w.heap.size,0,none⟩:Addr).add j)=some u:=by
 intro j u hu
 match j with
 | 0=>simp at hu;subst hu;exact jab _ _ _ _ _ rfl
 | j+1=>simp at hu
def jz1 (R:Option (List ByteArray)) (w:World) (e:Ending) (w':World):Prop:=∃ v,e = .returned (.tuple #[v,.bool R.isSome])∧Sl Enc.str w' (From w.heap.size w') (R.getD []) v∧Below w.heap.size w w'
theorem yp7 {w:World} {b n c:Nat} {f:ByteArray→Option Value} (h:MapS Tryz.prog 9 w b n c f) (ty:TypeId):(Builtin.len_ #[152] ty #[.map (some b)]).run Tryz.prog w = .ok (.int .i64 c) w:=h.len jrc ty
theorem jrs {l:List TabD} {k:Nat} {t:TabD} (h:l[k]? = some t):ja3 (l.take (k+1))=ja3 (l.take k) ++ [t.name]:=by unfold ja3;rw [jai h,List.map_append];rfl
theorem yla {l:List TabD} (hn:(ja3 l).Nodup) {k:Nat} {t:TabD} (h:l[k]? = some t):t.name ∉ ja3 (l.take k):=by
 intro hm;have e:l=l.take k ++ t :: l.drop (k+1):=by rw [← jdi h,List.take_append_drop]
 rw [e] at hn;unfold ja3 at hn hm;rw [List.map_append,List.nodup_append] at hn;exact hn.2.2 _ hm t.name (by simp) rfl
theorem WaitAt.put {w w':World} {M mb n c:Nat} {wait:List ByteArray} {s:ByteArray} (h:WaitAt w M mb n c wait) (hne:M≠mb) (hs:s ∉ wait) (hm:MapS Tryz.prog 9 w' mb (n+1) (if (jkw wait s).isSome then c else c+1) (fun x=>if jap x s then some (.bool true) else jkw wait x)) (hg:w.grownBy w' (some mb)):WaitAt w' M mb (n+1) (c+1) (wait ++ [s]):=by
 rw [jwi,jdt.2 hs] at hm;refine ⟨(World.cell?_of_block (a:=⟨M,0,none⟩) (hg.block _ h.lt (by intro e;injection e with e;exact hne e))).trans h.cell,Nat.lt_of_lt_of_le h.lt hg.size,hm.congr fun x=>jty wait s x⟩
theorem WaitAt.del {w w':World} {M mb n c:Nat} {wait:List ByteArray} {s:ByteArray} (h:WaitAt w M mb n c wait) (hne:M≠mb) (hs:s∈wait) (hm:MapS Tryz.prog 9 w' mb n (if (jkw wait s).isSome then c-1 else c) (fun x=>if jap x s then none else jkw wait x)) (hg:w.grownBy w' (some mb)):WaitAt w' M mb n (c-1) (jke wait s):=by
 rw [jwi,jej.2 hs] at hm;refine ⟨(World.cell?_of_block (a:=⟨M,0,none⟩) (hg.block _ h.lt (by intro e;injection e with e;exact hne e))).trans h.cell,Nat.lt_of_lt_of_le h.lt hg.size,hm.congr fun x=>yji wait s x⟩
theorem WaitAt.kept {w w':World} {M mb n c:Nat} {wait:List ByteArray} {row:Option Nat} (h:WaitAt w M mb n c wait) (hg:w.grownBy w' row) (h1:some M≠row) (h2:some mb≠row):WaitAt w' M mb n c wait :=
 ⟨(World.cell?_of_block (a:=⟨M,0,none⟩) (hg.block _ h.lt h1)).trans h.cell,Nat.lt_of_lt_of_le h.lt hg.size,h.map.kept hg h2⟩
theorem OwnG.aside {α:Type} {E:Enc α} {w w':World} {base lo e g:Nat} {v:Value} {l:List α} (h:OwnG E w base lo e v l) (hg:w.grownBy w' (some g)) (hb:g<base) (hl:g<lo):OwnG E w' base lo e v l:=by
 have hlt:=h.lt;obtain ⟨us,h1,h2⟩:=h;refine ⟨us,ja1 h1 (fun k hk=>hg.block k (hlt k hk).2 (by intro e;injection e with e;have:=(hlt k hk).1;omega)),?_⟩;exact (h2.keep (w':=w') fun p hp=>World.cell?_of_block (hg.block _ hp.2.1 (by intro e;injection e with e;have:=hp.1;omega))).more fun k hk=>⟨hk.1,Nat.lt_of_lt_of_le hk.2.1 hg.size,hk.2.2⟩
open Go.Lib (hid)
open Go.RowKit Go.Shelf
theorem jod (b:BookD) (v:Value) (w:World) (h:jar w (Old w) b v) (hs:jgd b) (hn:(ja3 b.tabs).Nodup) (hlen:b.tabs.length*16≤140737488355328) :
  Calls Tryz.prog 54 #[v] w (jz1 (je4 b.tabs) w):=by
 have HSM:=hid hs.2;have HN:=hid hn;clear hs hn;obtain ⟨doms,tabs⟩:=b;obtain ⟨vd,vt,rfl,h1,h2⟩:=h;simp only at h1 h2 hlen HSM HN ⊢;have H:=hid h2;obtain ⟨A,c,rfl,hc1,hc2,-⟩:=h1;obtain ⟨B,d,rfl,hd1,hd2,-⟩:=h2;unfold maxLen at hc2 hd2;have HE:Hid (je4 tabs=jgx tabs tabs.length (ja3 tabs)):=rfl;generalize je4 tabs=R at *;have hb0:=jaa w (.cells #[.slice A doms.length c,.slice B tabs.length d] 38);have C0:=hid (Cs.new w [.slice A doms.length c,.slice B tabs.length d] 38);have hz0:(w.alloc (.cells #[.slice A doms.length c,.slice B tabs.length d] 38)).heap.size=w.heap.size+1:=by simp
 change Hid (Cs (w.alloc (.cells #[.slice A doms.length c,.slice B tabs.length d] 38)) _ _) at C0;generalize hw0:w.alloc (.cells #[.slice A doms.length c,.slice B tabs.length d] 38)=w0 at *;have hb1:=jaa w0 (.map #[] 0);have M1:=hid (MapS.made Tryz.prog 9 w0);have hmk:(Instr.makeMap 152 none).run Tryz.prog w0 = .ok (.map (some (w.heap.size+1))) (w0.alloc (.map #[] 0)):=by rw [← hz0];exact yjg w0
 have hz1:(w0.alloc (.map #[] 0)).heap.size=w.heap.size+2:=by simp;omega
 rw [hz0] at M1;generalize hw1:w0.alloc (.map #[] 0)=w1 at *;have hb2:=jaa w1 (.cells #[.map (some (w.heap.size+1))] 152);have C2:=hid (Cs.new w1 [.map (some (w.heap.size+1))] 152);change Hid (Cs (w1.alloc (.cells #[.map (some (w.heap.size+1))] 152)) _ _) at C2;rw [hz1] at C2;have hb02:=bx hb0 (bx hb1 hb2);have C02:=hid (C0.out.next (bx hb1 hb2));have W2:Hid (WaitAt (w1.alloc (.cells #[.map (some (w.heap.size+1))] 152)) (w.heap.size+2) (w.heap.size+1) 0 0 []):=⟨C2.out.at 0 rfl,C2.out.1,(M1.out.below hb2).congr jtx⟩;generalize hw2:w1.alloc (.cells #[.map (some (w.heap.size+1))] 152)=w2 at *;have k1:=C02.out.at 1 rfl;go_enter Tryz.func54,Tryz.ntmps54
 go_wp2;go_loopw [13] (fun i wr=>∃ k:Nat,k≤tabs.length∧i = .int .i64 k∧Hid (WaitAt wr (w.heap.size+2) (w.heap.size+1) k k (ja3 (tabs.take k)))∧Hid (Cs wr w.heap.size [.slice A doms.length c,.slice B tabs.length d])∧Below w.heap.size w wr) (fun i _=>tabs.length-(intOf i).toNat)
 case atStart=>exact ⟨0,Nat.zero_le _,rfl,W2,C02,hb02⟩
 case round =>
  clear hmk hw0 hw1 hw2 hb0 hb1 hb2 hb02 k1;obtain ⟨k,hk,rfl,HW,CB,hb⟩:=hrel;by_cases hlt:k<tabs.length
  ·obtain ⟨b,o,nm,pol,comp,ins,rules,vi,vr,rfl,_,hx,c1,c2,c3,c4,c5,hi,hr⟩:=(H.out.onOld hb).tab_at hlt;obtain ⟨Ai,ci,rfl,-,-⟩:=hi.form;obtain ⟨Ar,cr,rfl,-,-⟩:=hr.form;clear hi hr;have HNM:=hid (je6 (HSM.out _ (List.mem_of_getElem? hx.out)));have hbz:=jaa wr (.cells #[.string nm,.int .i64 pol,.bool comp,.slice Ai ins.length ci,.slice Ar rules.length cr] 56);have hbl2:=bx hb hbz;have CN:=hid (Cs.new wr [.string nm,.int .i64 pol,.bool comp,.slice Ai ins.length ci,.slice Ar rules.length cr] 56);change Hid (Cs (wr.alloc (.cells #[.string nm,.int .i64 pol,.bool comp,.slice Ai ins.length ci,.slice Ar rules.length cr] 56)) _ _) at CN;have HWa:=hid (HW.out.next hbz);have CBa:=hid (CB.out.next hbz);have q0:=CN.out.at 0 rfl;have cM:=HWa.out.cell;have hkm:k<maxLen:=by unfold maxLen;omega
   generalize hwa:wr.alloc (.cells #[.string nm,.int .i64 pol,.bool comp,.slice Ai ins.length ci,.slice Ar rules.length cr] 56)=wa at *;go_wp2_with (at_mapUpdate;refine jgk _ rfl _ _ _ 152 rfl 9 4 Tryz.underlying9 jrc (w.heap.size+1) k k _ rfl HWa.out.map nm rfl HNM.out hkm (.bool true) rfl ?_;intro w4 hm4 hg4)
   have HW4:=hid (HWa.out.put (by omega) (yla HN.out hx.out) hm4 hg4);rw [← jrs hx.out] at HW4;exact ⟨⟨k+1,by omega,by go_num,HW4,CBa.out.grown hg4 (by omega),hbl2.grown hg4 hbl2.size (fun _ hj=>by injection hj with hj;omega)⟩,by simp [intOf];omega⟩
  ·have ek:k=tabs.length:=by omega
   subst ek;rw [List.take_length] at HW;clear hlt hk;have hM3:=HW.out.lt;go_wp2;go_loopw [7] (fun u wr=>∃ wait done:List ByteArray,Hid (WaitAt wr (w.heap.size+2) (w.heap.size+1) tabs.length wait.length wait)∧Hid wait.Nodup∧Hid (∀ s,s∈wait→s∈ja3 tabs)∧Hid (done.length+wait.length=tabs.length)∧Hid (R=(jgx tabs wait.length wait).map (done ++ ·))∧Hid (OwnG Enc.str wr (w.heap.size+3) (w.heap.size+3) 9 u done)∧Hid (Cs wr w.heap.size [.slice A doms.length c,.slice B tabs.length d])∧Below w.heap.size w wr) (fun u _=>tabs.length-lenV u)
   case atStart =>
    refine ⟨ja3 tabs,[],?_,HN,fun s h=>h,?_,?_,OwnG.nil,CB,hb⟩
    ·have e:(ja3 tabs).length=tabs.length:=by simp [ja3]
     show WaitAt _ _ _ _ _ _
     rw [e];exact HW.out
    ·show ([]:List ByteArray).length+(ja3 tabs).length=_
     simp [ja3]
    ·show R=_
     rw [HE.out];have e:(ja3 tabs).length=tabs.length:=by simp [ja3]
     rw [e];cases jgx tabs tabs.length (ja3 tabs) <;> rfl
   case round =>
    clear HW CB hb hM3;rename World=>wr;obtain ⟨wait,done,HW,HND,HSUB,HSUM,HO,HOW,CB,hb⟩:=hrel;obtain ⟨Au,cu,rfl,hu1,hu2,-⟩:=HOW.out.form;have cM:=HW.out.cell;have hlen':=yp7 HW.out.map;have kB1:=CB.out.at 1 rfl;have hM3:=HW.out.lt;by_cases hw0:wait.length=0
    ·have hwe:wait = []:=List.length_eq_zero_iff.1 hw0;subst hwe;have hlen2:∀ ty:TypeId,(Builtin.len_ #[152] ty #[.map (some (w.heap.size+1))]).run Tryz.prog wr = .ok (.int .i64 0) wr:=hlen';clear hlen';have HR:Hid (R=some done):=by show _=_;rw [HO.out];simp [jgx]
     go_wp2;go_ret2;rw [HR.out];exact ⟨_,rfl,(HOW.out.sl (Nat.le_refl _)).more (fun k hk=>⟨by have:=hk.1;omega,hk.2⟩),hb⟩
    ·have hgt:(0:Int)<wait.length:=by omega
     have HWE:=hid (HSM.out);have HTB:=hid (H.out.onOld hb);have HSU:=HSUM.out;go_wp2_with fail
     refine (ydt wait tabs _ _ (w.heap.size+2) (w.heap.size+1) _ _ HW.out HTB.out HSM.out).mono ?_;rintro e w1 ⟨hcase,hb1⟩;have hb01:=bx hb hb1;have HW1:=hid (HW.out.next hb1);have CB1:=hid (CB.out.next hb1);have HO1:=hid (HOW.out.next hb1);obtain ⟨m,hm⟩:∃ m,wait.length=m+1:=⟨wait.length-1,by omega⟩;have HO2:Hid (R=(match tabs.find? (jd6 wait) with | none=>none | some t=>(jgx tabs m (jke wait t.name)).map (t.name :: ·)).map (done ++ ·)):=by show _=_;rw [HO.out,hm];rfl
     have HM:=hid hm;clear HW CB HOW HO hm cM hlen' kB1;rcases hcase with ⟨rfl,HF⟩ | ⟨k,t,rfl,hkl,HX,HF⟩
     ·have HR:Hid (R=none):=by show _=_;rw [HO2.out,HF.out];rfl
      go_wp2;go_ret2;rw [HR.out];exact ⟨_,rfl,Sl.nil,hb01⟩
     ·obtain ⟨b2,o2,nm,pol,comp,ins,rules,vi,vr,rfl,hS2,hx2,c1,-⟩:=H.out.tab_at hkl;have het:=HX.out.symm.trans hx2.out;injection het with het;subst het;have hS2':b2<w.heap.size:=hS2;have hSM:=HSM.out _ (List.mem_of_getElem? hx2.out);have HNM:=hid (je6 hSM);have HIN:=hid ((jnv.1 (List.find?_some HF.out)).1);have HO3:Hid (R=(jgx tabs m (jke wait nm)).map (fun x=>done ++ nm :: x)):=by show _=_;rw [HO2.out,HF.out];simp only [Option.map_map];rfl
      have HDL:=hid (jhg HND.out HIN.out);have hk0:(0:Int)≤k:=by omega
      have hk1:(k:Int)<tabs.length:=by omega
      have c1a:=(hb01.cell (p:=⟨b2,o2+k*5,none⟩) hS2').trans c1;have kB:=CB1.out.at 1 rfl;have hbz:=jaa w1 (.cells #[.string nm] 9);have HOa:=hid (HO1.out.alloc (.cells #[.string nm] 9));have HWa:=hid (HW1.out.next hbz);have CBa:=hid (CB1.out.next hbz);have hba:=bx hb01 hbz;have hba3:w.heap.size+3≤(w1.alloc (.cells #[.string nm] 9)).heap.size:=HWa.out.lt;have hbd:(done.length+1)*16≤140737488355328:=by omega
      have hbm:done.length+1≤maxLen:=by unfold maxLen;omega
      clear HX HSM hSM HO2 HF HWE HTB;go_wp2_with (at_builtin;refine jaf (E:=Enc.str) _ rfl _ _ 39 rfl (w.heap.size+3) (w.heap.size+3) 9 16 (.string ⟨#[]⟩) ycl yf6 rfl (by decide) _ _ rfl HOa.out ⟨w1.heap.size,0,none⟩ nm [.string nm] rfl rfl (jp1 _ _ _) hbd hbm hba3 ?_;intro v5 w5 hown5 hgrow5 hmv5)
      have hlt5:=HOa.out.lt;have HW5:=hid (HWa.out.kept hgrow5 (fun e=>by have:=(hlt5 _ e.symm).1;omega) (fun e=>by have:=(hlt5 _ e.symm).1;omega));have CB5:=hid (CBa.out.keep (hgrow5.block _ CBa.out.1 (fun e=>by have:=(hlt5 _ e.symm).1;omega)) hgrow5.size);have hb5:=hba.grown hgrow5 hba.size (fun _ hj=>by have:=(hlt5 _ hj).1;omega);have c5:=(hb5.cell (p:=⟨b2,o2+k*5,none⟩) hS2').trans c1;have kB5:=CB5.out.at 1 rfl;have cM5:=HW5.out.cell;clear c1a kB hbz HOa HWa CBa hlt5;go_region_law (refine ym0 rfl (.tmp 39) (.tmp 45) 152 9 rfl 4 Tryz.underlying9 jrc (w.heap.size+1) tabs.length wait.length (jkw wait) (by simp [Act.eval]) HW5.out.map nm (by simp [Act.eval]) HNM.out ?_;intro w6 hm6 hg6)
      all_goals go_wp2
      all_goals
       have hd5:Below w5.heap.size w5 w5.drew:=(Below.refl _ _).drew;have HW6:=hid ((HW5.out.next hd5).del (by omega) HIN.out hm6 hg6);have hb5d:=bx hb5 hd5;have hb6:Below w.heap.size w w6:=hb5d.grown hg6 hb5d.size (fun _ hj=>by injection hj with hj;omega);have hdl:=HDL.out;obtain ⟨A5,c5',e5,-,-,-⟩:=hown5.form;have hown6:OwnG Enc.str w6 (w.heap.size+3) (w.heap.size+3) 9 v5 (done ++ [nm]):=(hown5.next hd5).aside hg6 (by omega) (by omega);refine ⟨⟨jke wait nm,done ++ [nm],?_,jij _ HND.out,fun s hs=>HSUB.out s (jeg.1 hs).1,?_,?_,hown6,(CB5.out.next hd5).grown hg6 (by omega),hb6⟩,?_⟩
       ·show WaitAt _ _ _ _ _ _
        rw [show (jke wait nm).length=wait.length-1 by omega];exact HW6.out
       ·show (done ++ [nm]).length+_=_
        rw [List.length_append]
        show done.length+1+_=_
        omega
       ·show R=_
        rw [HO3.out,show (jke wait nm).length=m by have:=HM.out;omega];cases jgx tabs m (jke wait nm) <;> simp
       ·subst e5
        show tabs.length-(done ++ [nm]).length<tabs.length-done.length
        rw [List.length_append]
        show tabs.length-(done.length+1)<_
        omega
open Go.Lib (hid)
open Go.RowKit
theorem OwnG.setCell {α:Type} {E:Enc α} {w:World} {base lo e g o:Nat} {v x:Value} {l:List α} (h:OwnG E w base lo e v l) (hb:g<lo) (hv:v.ownBlock≠some g):OwnG E (w.setCell ⟨g,o,none⟩ x) base lo e v l:=by
 obtain ⟨us,h1,h2⟩:=h;have hz:(w.setCell ⟨g,o,none⟩ x).heap.size=w.heap.size:=by simp [World.setCell]
 refine ⟨us,ja1 h1 (fun g' hg'=>?_),?_⟩
 ·exact RowKit.Below.heap_setCell _ _ _ _ (by intro hh;apply hv;rw [hg',hh])
 ·refine (h2.keep (w':=w.setCell ⟨g,o,none⟩ x) fun p hp=>?_).more fun k hk=>⟨hk.1,by rw [hz];exact hk.2.1,hk.2.2⟩;exact World.cell?_of_block (RowKit.Below.heap_setCell _ _ _ _ (by have:=hp.1;show p.block≠g;omega))
open Go.Lib (hid)
open Go.RowKit
theorem jcq {P:Program} (w:World) (dT sT ty elem:TypeId) (size:Nat) (g o dLen dCap:Nat) (a:Addr) (sLen sCap:Nat) (cur:Array Value) (t:TypeId) (cs:List Value)
  (hu:P.underlying dT=some (.slice elem)) (hs:(P.info? elem).map (·.size)=some size)
  (hg:w.heap[g]? = some (.cells cur t (0,0))) (hn:cs.length=Nat.min sLen dLen*size)
  (hsrc:∀ j v,cs[j]? = some v→w.cell? (a.add j)=some v) (hfit:o+cs.length≤cur.size) (h1:∀ v∈cs,v.oneCell'=true) :
  (Builtin.copy_ #[dT,sT] ty #[.slice (some ⟨g,o,none⟩) dLen dCap,.slice (some a) sLen sCap]).run P w =
   .ok (goInt (Nat.min sLen dLen)) (w.setRow g (cur.toList.take o ++ cs ++ cur.toList.drop (o+cs.length)).toArray):=by
 have hl:=run_loadCells_list (P:=P) w a cs hsrc;have hst:=run_storeCells_at P g o t cs 0 cur w hg (by simpa using hfit) h1;cases hq:P.info? elem with
 | none=>simp [hq] at hs
 | some i =>
  have hi:i.size=size:=by simpa [hq] using hs
  simp [Builtin.copy_,run_underlying hu,Builtin.lenOf,Builtin.firstCells,sizeOf,typeInfo,hq,hi,← hn,hl,hst]
theorem jac (w:World) (o:Obj):Below w.heap.size w (w.alloc o):=(Below.refl _ _).alloc (Nat.le_refl _) o
theorem jby (w:World) (g:Nat) (cs:Array Value):w.grownBy (w.setRow g cs) (some g):=by
 refine ⟨rfl,rfl,rfl,by simp [World.setRow],fun k hk hne=>?_⟩;have:¬ g=k:=fun e=>hne (by rw [e])
 simp only [World.setRow];rw [Array.getElem?_modify,if_neg this]
theorem jpw (w:World) (g:Nat) (cs:Array Value):(w.setRow g cs).heap.size=w.heap.size:=by simp [World.setRow]
theorem jnr {w:World} {base e size g cap n:Nat} {cur:Array Value} {xs:List Value} (hb:base≤g) (hg:w.heap[g]? = some (.cells cur e (0,0))) (hn:n≤cap) (hc:cap≤maxLen) (hs:cur.size=cap*size) (hx:cur.toList.take (n*size)=xs):w.ownsRow base e size (.slice (some ⟨g,0,none⟩) n cap) n xs:=by
 refine ⟨?_,.inr ⟨g,cap,cur,rfl,hb,hg,hn,hc,hs,hx⟩⟩;rw [← hx,List.length_take,Array.length_toList,hs];exact Nat.min_eq_left (Nat.mul_le_mul_right _ hn)
theorem jbk {w:World} {g e:Nat} {cur:Array Value} (hg:w.heap[g]? = some (.cells cur e (0,0))) {j:Nat} {v:Value} (h:cur.toList[j]? = some v):w.cell? ⟨g,j,none⟩=some v:=by
 simp [World.cell?,hg];simpa using h
theorem yma {cur:List Value} {a b:Nat} {us news:List Value} (hu:cur.take b=us) (hab:a≤b) (hbl:b+news.length≤cur.length) :
  ((cur.take (a+news.length) ++ us.drop a ++ cur.drop (a+news.length+(us.drop a).length)).take a ++ news ++ (cur.take (a+news.length) ++ us.drop a ++ cur.drop (a+news.length+(us.drop a).length)).drop (a+news.length)).take (b+news.length)=us.take a ++ news ++ us.drop a:=by
 have hul:us.length=b:=by rw [← hu,List.length_take];omega
 have h1:(cur.take (a+news.length) ++ us.drop a ++ cur.drop (a+news.length+(us.drop a).length)).take a=us.take a:=by
  rw [List.append_assoc,List.take_append_of_le_length (by rw [List.length_take];omega),List.take_take,← hu,List.take_take]
  congr 1;omega
 have h2:(cur.take (a+news.length) ++ us.drop a ++ cur.drop (a+news.length+(us.drop a).length)).drop (a+news.length)=us.drop a ++ cur.drop (a+news.length+(us.drop a).length):=by
  rw [List.append_assoc,List.drop_append_of_le_length (by rw [List.length_take];omega),List.drop_of_length_le (by rw [List.length_take];omega),List.nil_append]
 rw [h1,h2,← List.append_assoc,List.take_append_of_le_length (by simp [hul];omega),List.take_of_length_le (by simp [hul];omega)]
theorem yee {R:List Value} {a b:Nat} {us news:List Value} (hu:us.length=b) (hR:R.take a=us.take a) (hab:a≤b) :
  ((R.take a ++ news ++ R.drop (a+news.length)).take (a+news.length) ++ us.drop a ++ (R.take a ++ news ++ R.drop (a+news.length)).drop (a+news.length+(us.drop a).length)).take (b+news.length)=us.take a ++ news ++ us.drop a:=by
 have hl:(us.take a ++ news).length=a+news.length:=by simp [hu];omega
 rw [hR];have h1:(us.take a ++ news ++ R.drop (a+news.length)).take (a+news.length)=us.take a ++ news:=by
  rw [List.take_append_of_le_length (by omega),List.take_of_length_le (by omega)]
 rw [h1,List.take_append_of_le_length (by simp [hu];omega),List.take_of_length_le (by simp [hu];omega)]
theorem jnu {R:List Value} {a b:Nat} {us news:List Value} (hu:us.length=b) (hab:a≤b) (hbl:b+news.length≤R.length) :
  ((R.take a ++ news ++ R.drop (a+news.length)).take (a+news.length) ++ us.drop a ++ (R.take a ++ news ++ R.drop (a+news.length)).drop (a+news.length+(us.drop a).length)).length=R.length:=by
 simp [hu];omega
theorem jps {cur:List Value} {a b:Nat} {us news:List Value} (hu:cur.take b=us) (hab:a≤b) (hbl:b+news.length≤cur.length) :
  ((cur.take (a+news.length) ++ us.drop a ++ cur.drop (a+news.length+(us.drop a).length)).take a ++ news ++ (cur.take (a+news.length) ++ us.drop a ++ cur.drop (a+news.length+(us.drop a).length)).drop (a+news.length)).length=cur.length:=by
 have hul:us.length=b:=by rw [← hu,List.length_take];omega
 simp [hul];omega
open Go.Lib (hid)
open Go.RowKit
def Raw (w:World) (size:Nat) (v:Value) (n:Nat) (us:List Value):Prop :=
 ∃ A c,v = .slice A n c∧n≤c∧c≤maxLen∧(A=none→c=0)∧us.length=n*size∧(0<n→∃ b o,A=some ⟨b,o,none⟩∧∀ j u,us[j]? = some u→w.cell? ⟨b,o+j,none⟩=some u)∧∀ u∈us,u.oneCell'=true
theorem Sl.raw {α:Type} {E:Enc α} {w:World} {S:Nat→Prop} {l:List α} {v:Value} (h:Sl E w S l v):∃ us,Raw w E.size v l.length us∧jb9 E w S l us:=by
 have h':=h;obtain ⟨A,c,rfl,h2,h3,hn,h4⟩:=h;cases A with
 | none =>
  have hc:=hn rfl;subst hc;obtain rfl:l = []:=List.length_eq_zero_iff.1 (by omega);exact ⟨[],⟨none,0,rfl,h2,h3,hn,by simp,fun h=>absurd h (by simp),by simp⟩,jb9.nil⟩
 | some a =>
  obtain ⟨us,u1,u2,u3,u4⟩:=h'.cells;refine ⟨us,⟨some a,c,rfl,h2,h3,hn,u1,fun h0=>?_,u4⟩,u2⟩;obtain ⟨b,o,e,_,_⟩:=h4 h0;injection e with e;subst e;refine ⟨b,o,rfl,fun j u hu=>?_⟩;have:=u3 j u hu
  rwa [Addr.add_lit] at this
theorem Sl.rawB {α:Type} {E:Enc α} {w w':World} {S:Nat→Prop} {l:List α} {v:Value} {us:List Value} (h:Sl E w S l v) (hr:Raw w E.size v l.length us) (hk:∀ k,S k→w'.heap[k]? = w.heap[k]?):Raw w' E.size v l.length us:=by
 obtain ⟨A,c,rfl,_,_,_,h4⟩:=h;obtain ⟨A',c',e,a2,a3,a4,a5,a6,a7⟩:=hr;injection e with e1 e2 e3;subst e1 e3;refine ⟨A,c,rfl,a2,a3,a4,a5,fun h0=>?_,a7⟩;obtain ⟨b,o,rfl,hS,_⟩:=h4 h0;obtain ⟨b',o',e',h8⟩:=a6 h0;obtain ⟨rfl,rfl⟩:=jc5 e';exact ⟨b,o,rfl,fun j u hu=>(World.cell?_of_block (hk b hS)).trans (h8 j u hu)⟩
def OwnS {α:Type} (E:Enc α) (w:World) (base:Nat) (S:Nat→Prop) (e:Nat) (v:Value) (l:List α):Prop :=
 ∃ us:List Value,w.ownsRow base e E.size v l.length us∧jb9 E w S l us
section
variable {α:Type} {E:Enc α} {w w':World} {base e:Nat} {S S':Nat→Prop} {v:Value} {l:List α}
theorem OwnS.nil:OwnS E w base S e (.slice none 0 0) []:=⟨[],World.ownsRow_nil w base e E.size,jb9.nil⟩
theorem OwnS.lt (h:OwnS E w base S e v l):∀ k,v.ownBlock=some k→base≤k∧k<w.heap.size:=by
 obtain ⟨us,h1,_⟩:=h;exact World.ownsRow.lt h1
theorem OwnS.sl (h:OwnS E w base S e v l) (hv:∀ k,v.ownBlock=some k→S' k) (hS:∀ k,S k→S' k):Sl E w S' l v:=by
 obtain ⟨us,h1,h2⟩:=h;have hlen:=h1.1;rcases h1.2 with ⟨rfl,h3⟩ | ⟨g,cap,cur,rfl,hb,hg,h4,h5,h6,h7⟩
 ·obtain rfl:l = []:=List.length_eq_zero_iff.1 h3;exact Sl.nil
 ·refine ⟨_,cap,rfl,h4,h5,(fun h=>by cases h),fun _=>⟨g,0,rfl,hv g rfl,fun i x hx=>?_⟩⟩;obtain ⟨cs,h8,h9⟩:=h2 i x hx;refine ⟨cs,E.more h8 hS,fun j u hu=>?_⟩;have:=h1.cells (g:=g) rfl _ _ (h9 j u hu)
  rw [Addr.add_lit] at this;rw [Nat.add_assoc];exact this
theorem OwnS.keep (h:OwnS E w base S e v l) (h1:∀ k,v.ownBlock=some k→w'.heap[k]? = w.heap[k]?) (h2:∀ k,S k→w'.heap[k]? = w.heap[k]?):OwnS E w' base S e v l:=by
 obtain ⟨us,k1,k2⟩:=h;exact ⟨us,ja1 k1 h1,k2.keep fun p hp=>World.cell?_of_block (h2 _ hp)⟩
theorem OwnS.more (h:OwnS E w base S e v l) (hS:∀ k,S k→S' k):OwnS E w base S' e v l:=by
 obtain ⟨us,k1,k2⟩:=h;exact ⟨us,k1,k2.more hS⟩
theorem OwnS.mono {base':Nat} (h:OwnS E w base S e v l) (hB:base'≤base):OwnS E w base' S e v l:=by
 obtain ⟨us,h1,h2⟩:=h;refine ⟨us,⟨h1.1,?_⟩,h2⟩;rcases h1.2 with h3 | ⟨g,cap,cur,h4,h5,h6⟩
 ·exact .inl h3
 ·exact .inr ⟨g,cap,cur,h4,Nat.le_trans hB h5,h6⟩
theorem jah {size n:Nat} {xs:List Value} (h:w.ownsRow base e size v n xs):∃ A c,v = .slice A n c∧n≤c∧c≤maxLen∧(A=none→c=0):=by
 rcases h.2 with ⟨rfl,h2⟩ | ⟨g,cap,cur,rfl,_,_,h4,h5,_⟩
 ·exact ⟨none,0,by rw [h2],by omega,by unfold maxLen;omega,fun _=>rfl⟩
 ·exact ⟨_,cap,rfl,h4,h5,fun h=>by cases h⟩
theorem jkl {size n:Nat} {xs:List Value} (h:w.ownsRow base e size v n xs) (h1:∀ u∈xs,u.oneCell'=true):Raw w size v n xs:=by
 have hl:=h.1;have hc:=fun g (hv:v.ownBlock=some g)=>h.cells (g:=g) hv;obtain ⟨A,c,rfl,h2,h3,h4⟩:=jah h;refine ⟨A,c,rfl,h2,h3,h4,hl,fun h0=>?_,h1⟩;rcases h.2 with ⟨_,h5⟩ | ⟨g,cap,cur,e1,_⟩
 ·omega
 ·injection e1 with e1;subst e1;refine ⟨g,0,rfl,fun j u hu=>?_⟩;have:=hc g rfl j u hu
  rwa [Addr.add_lit] at this
theorem Raw.keep {size n:Nat} {us:List Value} (h:Raw w size v n us) (hk:0<n→∀ p:Addr,v.ownBlock=some p.block→w'.cell? p=w.cell? p):Raw w' size v n us:=by
 obtain ⟨A,c,rfl,h2,h3,h4,h5,h6,h7⟩:=h;refine ⟨A,c,rfl,h2,h3,h4,h5,fun h0=>?_,h7⟩;obtain ⟨b,o,rfl,h8⟩:=h6 h0;exact ⟨b,o,rfl,fun j u hu=>(hk h0 ⟨b,o+j,none⟩ rfl).trans (h8 j u hu)⟩
end
open Go.Lib (hid)
open Go.RowKit
section
variable {α:Type} {f:α→List Value} {S:Nat}
theorem jil (hf:∀ x,(f x).length=S) (l:List α):(l.flatMap f).length=l.length*S:=by
 induction l with
 | nil=>simp
 | cons a l ih=>rw [List.flatMap_cons,List.length_append,ih,hf,List.length_cons,Nat.add_mul];omega
theorem jog (hf:∀ x,(f x).length=S) {l:List α} {k:Nat} {x:α} (h:l[k]? = some x) {j:Nat} (hj:j<S):(l.flatMap f)[k*S+j]? = (f x)[j]?:=by
 induction l generalizing k with
 | nil=>simp at h
 | cons a l ih =>
  rw [List.flatMap_cons];cases k with
  | zero =>
   simp at h;subst h;rw [Nat.zero_mul,Nat.zero_add,List.getElem?_append_left (by rw [hf];exact hj)]
  | succ k =>
   simp at h;rw [List.getElem?_append_right (by rw [hf,Nat.add_mul];omega),hf,show (k+1)*S+j-S=k*S+j from by rw [Nat.add_mul];omega];exact ih h
theorem jp6 (hf:∀ x,(f x).length=S) (l:List α) (k:Nat):(l.take k).flatMap f=(l.flatMap f).take (k*S):=by
 induction l generalizing k with
 | nil=>simp
 | cons a l ih =>
  cases k with
  | zero=>simp
  | succ k =>
   rw [List.take_succ_cons,List.flatMap_cons,List.flatMap_cons,ih,show (k+1)*S=(f a).length+k*S from by rw [hf,Nat.add_mul];omega,List.take_length_add_append]
theorem yax (hf:∀ x,(f x).length=S) (l:List α) (k:Nat):(l.drop k).flatMap f=(l.flatMap f).drop (k*S):=by
 induction l generalizing k with
 | nil=>simp
 | cons a l ih =>
  cases k with
  | zero=>simp
  | succ k =>
   rw [List.drop_succ_cons,List.flatMap_cons,ih,show (k+1)*S=(f a).length+k*S from by rw [hf,Nat.add_mul];omega,List.drop_length_add_append]
end
theorem jqt {P:Program} (w:World) (t e:TypeId) (z:Value) (ht:P.underlying t=some (.slice e)) (hv:∀ w,(zeroValue e).run P w = .ok z w) (h1:∀ u∈z.cells.toList,u.oneCell'=true) (g o n c:Nat) (cur:Array Value) (hn:0<n) (hg:w.heap[g]? = some (.cells cur e (0,0))) (hfit:o+n*z.cells.size≤cur.size) :
  ∃ cur':Array Value,(∀ ty,(Builtin.clear_ #[t] ty #[.slice (some ⟨g,o,none⟩) n c]).run P w = .ok (.tuple #[]) (w.setRow g cur'))∧cur'.size=cur.size∧∀ q,q<o→cur'.toList[q]? = cur.toList[q]?:=by
 have hl:(Builtin.zeroCells z.cells n).toList.length=n*z.cells.size:=by simp [Builtin.zeroCells]
 have hst:=run_storeCells_at P g o e (Builtin.zeroCells z.cells n).toList 0 cur w hg (by rw [hl];omega) (by
  intro u hu;simp only [Builtin.zeroCells,Array.toList_map,List.mem_map] at hu;obtain ⟨i,hi,rfl⟩:=hu;have hi':i<n*z.cells.size:=by simpa using hi
  have hz:0<z.cells.size:=by
   rcases Nat.eq_zero_or_pos z.cells.size with h0 | h0
   ·rw [h0] at hi';omega
   ·exact h0
  have hm:=Nat.mod_lt i hz;rw [getElem!_pos z.cells _ hm];exact h1 _ (by simp))
 refine ⟨(cur.toList.take (o+0) ++ (Builtin.zeroCells z.cells n).toList ++ cur.toList.drop (o+0+(Builtin.zeroCells z.cells n).toList.length)).toArray,fun ty=>?_,?_,fun q hq=>?_⟩
 ·obtain ⟨m,rfl⟩:∃ m,n=m+1:=⟨n-1,by omega⟩;simp only [Builtin.clear_];simp [run_underlying ht,hv,hst]
 ·simp only [List.size_toArray,List.length_append,List.length_take,List.length_drop,hl,Array.length_toList];omega
 ·rw [List.append_assoc,List.getElem?_append_left (by rw [List.length_take,Array.length_toList];omega),List.getElem?_take_of_lt (by omega)]
theorem jm2 {w:World} {g e:Nat} {cur:Array Value} (hg:w.heap[g]? = some (.cells cur e (0,0))) (i:Nat) (v:Value):(w.setCell ⟨g,i,none⟩ v).heap[g]? = some (.cells (cur.setIfInBounds i v) e (0,0)):=by
 rw [setCell_eq_setRow w g i cur e (0,0) v hg];exact setRow_heap w g cur _ _ _ hg
theorem jg0 (cur:Array Value) (i:Nat) (v:Value) (hi:i<cur.size) (q:Nat):(cur.setIfInBounds i v).toList[q]? = if q=i then some v else cur.toList[q]?:=by
 rw [Array.toList_setIfInBounds,List.getElem?_set];by_cases h:i=q
 ·subst h;simp [hi]
 ·simp [h,Ne.symm h]
theorem jhj (w:World) (g o:Nat) (v:Value):w.grownBy (w.setCell ⟨g,o,none⟩ v) (some g) :=
 ⟨rfl,rfl,rfl,by simp [World.setCell],fun k _ hk=>RowKit.Below.heap_setCell _ _ _ _ (by intro h;apply hk;rw [h])⟩
theorem je3 {w:World} {g e:Nat} {cur:Array Value} (hg:w.heap[g]? = some (.cells cur e (0,0))) (j:Nat):w.frozen? ⟨g,j,none⟩=false:=by simp [World.frozen?,hg]
end Go.Proofs.YthmlndmlnlfhnaaGreatDoor
