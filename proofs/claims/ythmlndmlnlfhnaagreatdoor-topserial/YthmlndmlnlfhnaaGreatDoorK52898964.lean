import Derived.Deep.RegionHeld3
import Derived.OwnWalk
import Derived.Test.YthmlndmlnlfhnaaGreatDoorK88e617fb
import Derived.Test.YthmlndmlnlfhnaaGreatDoorKedf7ebc5
import Derived.Test.YthmlndmlnlfhnaaGreatDoorKb97ef3f3
set_option maxRecDepth 100000
set_option maxHeartbeats 16000000
namespace Go.Proofs.YthmlndmlnlfhnaaGreatDoor
open Go.Lib (hid)
open Go.RowKit
theorem yhk {s:ByteArray} {k:Nat} {b:UInt8} (h:s.data.toList[k]? = some b):(s.data.toList.drop k).all ja5=(ja5 b && (s.data.toList.drop (k+1)).all ja5):=jsc h
theorem jiz (s:ByteArray) (w:World) (hs:s.size≤140737488355328) :
  Calls Tryz.prog 114 #[.string s] w fun e w'=>e = .returned (.bool (jdr s))∧Below w.heap.size w w':=by
 by_cases h0:s.size=0
 ·have HE:Hid (jdr s=false):=by simp [jdr,h0,Hid]
  have h0':(s.size:Int)=0:=by omega
  go_enter Tryz.func114,Tryz.ntmps114
  go_wp2;go_ret;exact ⟨jad HE.out.symm,Below.refl _ _⟩
 ·by_cases h8:s.size≤8
  ·have HE:Hid (jdr s=s.data.toList.all ja5):=by simp [jdr,h8,Hid];omega
   have h0':((s.size:Int) == 0)=false:=beq_eq_false_iff_ne.2 (by omega);have h8':(s.size:Int)≤8:=by omega
   go_enter Tryz.func114,Tryz.ntmps114
   go_wp2;go_loopw [14] (fun i wr=>∃ k:Nat,k≤s.size∧i = .int .i64 k∧Hid (s.data.toList.all ja5=(s.data.toList.drop k).all ja5)∧Below w.heap.size w wr) (fun i _=>s.size-(intOf i).toNat)
   case atStart=>exact ⟨0,Nat.zero_le _,rfl,rfl,Below.refl _ _⟩
   case round =>
    obtain ⟨k,hk,rfl,hf,hb⟩:=hrel;by_cases hlt:k<s.size
    ·have HX:=hid (yhk (s:=s) (k:=k) (b:=s[k]) (by rw [List.getElem?_eq_getElem (by simpa using hlt)];rfl));by_cases h1:s[k].toNat<97
     ·have h1':(s[k].toNat:Int)<97:=by omega
      have HL:Hid (ja5 s[k]=false):=by simp [ja5,Hid];omega
      go_wp2;go_ret;exact ⟨jad (by rw [HE.out,hf.out,HX.out,HL.out];rfl),hb⟩
     ·by_cases h2:122<s[k].toNat
      ·have h1':97≤(s[k].toNat:Int):=by omega
       have h2':122<(s[k].toNat:Int):=by omega
       have HL:Hid (ja5 s[k]=false):=by simp [ja5,Hid];omega
       go_wp2;go_ret;exact ⟨jad (by rw [HE.out,hf.out,HX.out,HL.out];rfl),hb⟩
      ·have h1':97≤(s[k].toNat:Int):=by omega
       have h2':(s[k].toNat:Int)≤122:=by omega
       have HL:Hid (ja5 s[k]=true):=by simp [ja5,Hid];omega
       go_wp2;refine ⟨⟨k+1,by omega,by go_num,?_,hb⟩,by simp [intOf];omega⟩
       show s.data.toList.all ja5=_
       rw [hf.out,HX.out,HL.out];rfl
    ·go_wp2;go_ret;have hf':=hf.out;rw [List.drop_of_length_le (by have:s.data.toList.length=s.size:=rfl;omega)] at hf';exact ⟨jad (by rw [HE.out,hf'];rfl),hb⟩
  ·have HE:Hid (jdr s=false):=by simp [jdr,h8,Hid]
   go_enter Tryz.func114,Tryz.ntmps114
   go_wp2;go_ret;exact ⟨jad HE.out.symm,Below.refl _ _⟩
theorem ych (l:List ByteArray) (v:Value) (s:ByteArray) (w:World) (h:Sl Enc.str w (Old w) l v) :
  Calls Tryz.prog 189 #[v,.string s] w fun e w'=>(∃ j:Int,e = .returned (.int .i64 j)∧(0≤j)=(l.any (jap s)=true) ∧ -1≤j)∧Below w.heap.size w w':=by
 have H:=hid h;obtain ⟨A,c,rfl,hc1,hc2,-⟩:=h;unfold maxLen at hc2;go_enter Tryz.func189,Tryz.ntmps189
 go_wp2;go_loopw [8] (fun i wr=>∃ k:Nat,k≤l.length∧i = .int .i64 k∧Hid ((l.take k).any (jap s)=false)∧Below w.heap.size w wr) (fun i _=>l.length-(intOf i).toNat)
 case atStart=>exact ⟨0,Nat.zero_le _,rfl,rfl,Below.refl _ _⟩
 case round =>
  obtain ⟨k,hk,rfl,hf,hb⟩:=hrel;by_cases hlt:k<l.length
  ·obtain ⟨b,o,x,rfl,_,hx,c1⟩:=(H.out.below (fun _ h=>h) hb).str_at hlt;by_cases hq:(s.toList == x.toList)=true
   ·have HQ:=hid hq;go_wp2;go_ret;refine ⟨⟨_,rfl,?_,by omega⟩,hb⟩;have:l.any (jap s)=true:=List.any_eq_true.2 ⟨x,List.mem_of_getElem? hx.out,HQ.out⟩
    simp [this]
   ·have hq':(s.toList == x.toList)=false:=by simpa using hq
    have HQ:=hid hq';clear hq;go_wp2;refine ⟨⟨k+1,by omega,by go_num,?_,hb⟩,by simp [intOf];omega⟩
    show (l.take (k+1)).any (jap s)=false
    rw [jai hx.out,List.any_append,hf.out];simp only [List.any_cons,List.any_nil,Bool.or_false,Bool.false_or];exact HQ.out
  ·go_wp2;go_ret;have e:l.take k=l:=List.take_of_length_le (by omega);have hf':=hf.out;rw [e] at hf';exact ⟨⟨_,rfl,by rw [hf'];simp,by omega⟩,hb⟩
theorem jib (l:List ByteArray) (v:Value) (s:ByteArray) (w:World) (h:Sl Enc.str w (Old w) l v) :
  Calls Tryz.prog 162 #[v,.string s] w fun e w'=>e = .returned (.bool (l.any (jap s)))∧Below w.heap.size w w':=by
 have H:=hid h;obtain ⟨A,c,rfl,hc1,hc2,-⟩:=h;go_enter Tryz.func162,Tryz.ntmps162
 go_wp2_with fail
 refine (ych l _ s _ H.out).mono ?_;rintro e w1 ⟨⟨j,rfl,hj,hj1⟩,hb1⟩;have HJ:=hid hj;clear hj;go_wp2;go_ret;refine ⟨jad ?_,hb1⟩;have:=HJ.out
 by_cases h0:0≤j
 ·rw [this] at h0;rw [h0];simpa using (this ▸ h0:0≤j)
 ·have h1:¬ l.any (jap s)=true:=by rw [← this];exact h0
  rw [Bool.eq_false_iff.2 h1];simpa using h0
open Go.Lib (hid)
open Go.RowKit
theorem js3 (l:List ByteArray) (v:Value) (w:World) (h:Sl Enc.str w (Old w) l v) (hs:∀ s,s∈l→s.size≤140737488355328) :
  Calls Tryz.prog 123 #[v] w fun e w'=>e = .returned (.bool (jfs l))∧Below w.heap.size w w':=by
 have H:=hid h;have HS:=hid hs;clear hs;obtain ⟨A,c,rfl,hc1,hc2,-⟩:=h;unfold maxLen at hc2;by_cases h0:l.length=0
 ·have HE:Hid (jfs l=false):=by simp [jfs,h0,Hid]
  have h0':(l.length:Int)=0:=by omega
  go_enter Tryz.func123,Tryz.ntmps123
  go_wp2;go_ret;exact ⟨jad HE.out.symm,Below.refl _ _⟩
 ·by_cases h3:l.length≤3
  ·have HE:Hid (jfs l=jly [] l):=by simp [jfs,h3,Hid];omega
   have h0':((l.length:Int) == 0)=false:=beq_eq_false_iff_ne.2 (by omega);have h3':(l.length:Int)≤3:=by omega
   go_enter Tryz.func123,Tryz.ntmps123
   go_wp2;go_loopw [15] (fun i wr=>∃ k:Nat,k≤l.length∧i = .int .i64 k∧Hid (jly [] l=jly (l.take k) (l.drop k))∧Below w.heap.size w wr) (fun i _=>l.length-(intOf i).toNat)
   case atStart=>exact ⟨0,Nat.zero_le _,rfl,rfl,Below.refl _ _⟩
   case round =>
    obtain ⟨k,hk,rfl,hf,hb⟩:=hrel;have hsz:=hb.size;by_cases hlt:k<l.length
    ·have HW:=hid (H.out.onOld hb);obtain ⟨b,o,x,rfl,_,hx,c1⟩:=HW.out.str_at hlt;have HX:=hid (yfk hx.out);have HN:=hid (HS.out x (List.mem_of_getElem? hx.out));go_wp2_with fail
     refine (jiz x _ HN.out).mono ?_;rintro e w1 ⟨rfl,hb1⟩;cases hn:jdr x
     ·have HM:=hid hn;clear hn;go_wp2;go_ret;exact ⟨jad (by rw [HE.out,hf.out,HX.out,HM.out];rfl),bx hb hb1⟩
     ·have HM:=hid hn;have HF:=hid ((HW.out.onOld hb1).front (j:=k) (by omega));clear hn;go_wp2_with fail
      refine (jib (l.take k) _ x _ HF.out).mono ?_;rintro e w2 ⟨rfl,hb2⟩;cases hq:(l.take k).any (jap x)
      ·have HQ:=hid hq;clear hq;go_wp2;refine ⟨⟨k+1,by omega,by go_num,?_,bx hb (bx hb1 hb2)⟩,by simp [intOf];omega⟩
       show jly [] l=_
       rw [hf.out,HX.out,HM.out,HQ.out];rfl
      ·have HQ:=hid hq;clear hq;go_wp2;go_ret;exact ⟨jad (by rw [HE.out,hf.out,HX.out,HM.out,HQ.out];rfl),bx hb (bx hb1 hb2)⟩
    ·go_wp2;go_ret;have hf':=hf.out;rw [List.drop_of_length_le (by omega)] at hf';exact ⟨jad (by rw [HE.out,hf'];rfl),hb⟩
  ·have HE:Hid (jfs l=false):=by simp [jfs,h3,Hid]
   have h0':((l.length:Int) == 0)=false:=beq_eq_false_iff_ne.2 (by omega);have h3':3<(l.length:Int):=by omega
   go_enter Tryz.func123,Tryz.ntmps123
   go_wp2;go_ret;exact ⟨jad HE.out.symm,Below.refl _ _⟩
theorem jv9 (ng:Bool) (rs:List (Int × Int)) (v:Value) (w:World) (h:Sl Enc.rng w (Old w) rs v) :
  Calls Tryz.prog 190 #[.agg #[.bool ng,v]] w fun e w'=>e = .returned (.bool (jcl (ng,rs)))∧Below w.heap.size w w':=by
 have H:=hid h;obtain ⟨A,c,rfl,hc1,hc2,-⟩:=h;unfold maxLen at hc2;have hb0:=jaa w (.cells #[.bool ng,.slice A rs.length c] 85);have H1:=hid (H.out.onOld hb0);by_cases h0:ng=true∧rs.length=0
 ·obtain ⟨rfl,h0⟩:=h0;have h0':(rs.length:Int)=0:=by omega
  have HE:Hid (jcl (true,rs)=false):=by simp [jcl,h0,Hid]
  go_enter Tryz.func190,Tryz.ntmps190
  go_wp2;go_ret;exact ⟨jad HE.out.symm,jaa _ _⟩
 ·have h0':ng=false∨((rs.length:Int) == 0)=false:=by
   cases ng
   ·exact .inl rfl
   ·exact .inr (beq_eq_false_iff_ne.2 (fun h=>h0 ⟨rfl,by omega⟩))
  have HE:Hid (jcl (ng,rs)=(decide (rs.length≤4) && jbv rs)):=by
   show _=_
   unfold jcl;cases ng <;> simp_all
  by_cases h4:rs.length≤4
  ·have h4':(rs.length:Int)≤4:=by omega
   rcases h0' with rfl | h0'
   ·go_enter Tryz.func190,Tryz.ntmps190
    go_wp2_with fail
    refine (jbp rs _ _ H1.out).mono ?_;rintro e w1 ⟨rfl,hb1⟩;go_wp2;go_ret;exact ⟨jad (by rw [HE.out];simp [h4]),bx hb0 hb1⟩
   ·cases ng
    all_goals
     go_enter Tryz.func190,Tryz.ntmps190
     go_wp2_with fail
     refine (jbp rs _ _ H1.out).mono ?_;rintro e w1 ⟨rfl,hb1⟩;go_wp2;go_ret;exact ⟨jad (by rw [HE.out];simp [h4]),bx hb0 hb1⟩
  ·have h4':4<(rs.length:Int):=by omega
   have HF:Hid (jcl (ng,rs)=false):=by show _=_;rw [HE.out];simp [h4]
   clear HE;cases ng
   all_goals
    go_enter Tryz.func190,Tryz.ntmps190
    go_wp2;go_ret;exact ⟨jad HF.out.symm,hb0⟩
theorem jwa (cs:List CellD) (x n:Int) (v:Value) (w:World) (h:Sl Enc.cell w (Old w) cs v) :
  Calls Tryz.prog 163 #[.agg #[v,.int .i64 x],.int .i64 n] w fun e w'=>e = .returned (.bool (jfb n (cs,x)))∧Below w.heap.size w w':=by
 have H:=hid h;obtain ⟨A,c,rfl,hc1,hc2,-⟩:=h;unfold maxLen at hc2;have hb0:=jaa w (.cells #[.slice A cs.length c,.int .i64 x] 82);by_cases h1:x < -1000000
 ·have HE:Hid (jfb n (cs,x)=false):=by simp [jfb,Hid];omega
  go_enter Tryz.func163,Tryz.ntmps163
  go_wp2;go_ret;exact ⟨jad HE.out.symm,hb0⟩
 ·by_cases h2:1000000<x
  ·have h1':-1000000≤x:=by omega
   have HE:Hid (jfb n (cs,x)=false):=by simp [jfb,Hid];omega
   go_enter Tryz.func163,Tryz.ntmps163
   go_wp2;go_ret;exact ⟨jad HE.out.symm,hb0⟩
  ·have h1':-1000000≤x:=by omega
   have h2':x≤1000000:=by omega
   by_cases hn:(cs.length:Int)=n
   ·have hne:((cs.length:Int) != n)=false:=by simp [hn]
    have HE:Hid (jfb n (cs,x)=cs.all jcl):=by simp [jfb,hn,h1',h2',Hid]
    have HN:=hid hn;clear hn h1 h2;go_enter Tryz.func163,Tryz.ntmps163
    go_wp2;go_loopw [25] (fun i wr=>∃ k:Nat,k≤cs.length∧i = .int .i64 k∧Hid (cs.all jcl=(cs.drop k).all jcl)∧Below w.heap.size w wr) (fun i _=>cs.length-(intOf i).toNat)
    case atStart=>exact ⟨0,Nat.zero_le _,rfl,rfl,hb0⟩
    case round =>
     obtain ⟨k,hk,rfl,hf,hb⟩:=hrel;have hsz:=hb.size;by_cases hlt:k<cs.length
     ·obtain ⟨b,o,ng,rs,vr,rfl,_,hx,c1,c2,hr⟩:=(H.out.onOld hb).cell_at hlt;obtain ⟨Ar,cr,rfl,hr1,hr2⟩:=hr.form;have hbz:=jaa wr (.cells #[.bool ng,.slice Ar rs.length cr] 85);have HR:=hid (hr.onOld hbz);have HX:=hid (jsc (f:=jcl) hx.out);clear hr;go_wp2_with fail
      refine (jv9 ng rs _ _ HR.out).mono ?_;rintro e w1 ⟨rfl,hb1⟩;cases hg:jcl (ng,rs)
      ·have HG:=hid hg;clear hg;go_wp2;go_ret;exact ⟨jad (by rw [HE.out,hf.out,HX.out,HG.out];rfl),bx hb (bx hbz hb1)⟩
      ·have HG:=hid hg;clear hg;go_wp2;refine ⟨⟨k+1,by omega,by go_num,?_,bx hb (bx hbz hb1)⟩,by simp [intOf];omega⟩
       show cs.all jcl=_
       rw [hf.out,HX.out,HG.out];rfl
     ·go_wp2;go_ret;have hf':=hf.out;rw [List.drop_of_length_le (by omega)] at hf';exact ⟨jad (by rw [HE.out,hf'];rfl),hb⟩
   ·have hne:((cs.length:Int) != n)=true:=by simpa using hn
    have HE:Hid (jfb n (cs,x)=false):=by simp [jfb,hn,Hid]
    clear hn h1 h2;go_enter Tryz.func163,Tryz.ntmps163
    go_wp2;go_ret;exact ⟨jad HE.out.symm,hb0⟩
theorem jvk (l:List RuleD) (n:Int) (v:Value) (w:World) (h:Sl Enc.rule w (Old w) l v) :
  Calls Tryz.prog 124 #[v,.int .i64 n] w fun e w'=>e = .returned (.bool (jgv n l))∧Below w.heap.size w w':=by
 have H:=hid h;obtain ⟨A,c,rfl,hc1,hc2,-⟩:=h;unfold maxLen at hc2;by_cases h0:l.length=0
 ·have HE:Hid (jgv n l=false):=by simp [jgv,h0,Hid]
  have h0':(l.length:Int)=0:=by omega
  go_enter Tryz.func124,Tryz.ntmps124
  go_wp2;go_ret;exact ⟨jad HE.out.symm,Below.refl _ _⟩
 ·by_cases h3:l.length≤6
  ·have HE:Hid (jgv n l=l.all (jfb n)):=by show _=_;unfold jgv;rw [decide_eq_true (show 0<l.length by omega),decide_eq_true h3];rfl
   have h0':((l.length:Int) == 0)=false:=beq_eq_false_iff_ne.2 (by omega);have h3':(l.length:Int)≤6:=by omega
   go_enter Tryz.func124,Tryz.ntmps124
   go_wp2;go_loopw [17] (fun i wr=>∃ k:Nat,k≤l.length∧i = .int .i64 k∧Hid (l.all (jfb n)=(l.drop k).all (jfb n))∧Below w.heap.size w wr) (fun i _=>l.length-(intOf i).toNat)
   case atStart=>exact ⟨0,Nat.zero_le _,rfl,rfl,Below.refl _ _⟩
   case round =>
    obtain ⟨k,hk,rfl,hf,hb⟩:=hrel;have hsz:=hb.size;by_cases hlt:k<l.length
    ·obtain ⟨b,o,cs,x,vc,rfl,_,hx,c1,c2,hr⟩:=(H.out.onOld hb).rule_at hlt;obtain ⟨Ar,cr,rfl,hr1,hr2⟩:=hr.form;have hbz:=jaa wr (.cells #[.slice Ar cs.length cr,.int .i64 x] 82);have HR:=hid (hr.onOld hbz);have HX:=hid (jsc (f:=jfb n) hx.out);clear hr;go_wp2_with fail
     refine (jwa cs x n _ _ HR.out).mono ?_;rintro e w1 ⟨rfl,hb1⟩;cases hg:jfb n (cs,x)
     ·have HG:=hid hg;clear hg;go_wp2;go_ret;exact ⟨jad (by rw [HE.out,hf.out,HX.out,HG.out];rfl),bx hb (bx hbz hb1)⟩
     ·have HG:=hid hg;clear hg;go_wp2;refine ⟨⟨k+1,by omega,by go_num,?_,bx hb (bx hbz hb1)⟩,by simp [intOf];omega⟩
      show l.all (jfb n)=_
      rw [hf.out,HX.out,HG.out];rfl
    ·go_wp2;go_ret;have hf':=hf.out;rw [List.drop_of_length_le (by omega)] at hf';exact ⟨jad (by rw [HE.out,hf'];rfl),hb⟩
  ·have HE:Hid (jgv n l=false):=by simp [jgv,h3,Hid]
   have h0':((l.length:Int) == 0)=false:=beq_eq_false_iff_ne.2 (by omega);have h3':6<(l.length:Int):=by omega
   go_enter Tryz.func124,Tryz.ntmps124
   go_wp2;go_ret;exact ⟨jad HE.out.symm,Below.refl _ _⟩
open Go.Lib (hid)
open Go.RowKit
def jdm (t:TabD):Prop:=t.name.size≤140737488355328∧(∀ s,s∈t.ins→s.size≤140737488355328)∧t.rules.length*32≤140737488355328
theorem jeb (t:TabD) (v:Value) (w:World) (h:ja9 w (Old w) t v) (hs:jdm t) :
  Calls Tryz.prog 83 #[v] w fun e w'=>e = .returned (.bool (jbd t))∧Below w.heap.size w w':=by
 obtain ⟨nm,pol,comp,ins,rules⟩:=t;obtain ⟨vi,vr,rfl,hi,hr⟩:=h;obtain ⟨hs1,hs2,_⟩:=hs;simp only at hi hr hs1 hs2;have HS:=hid hs2;clear hs2;obtain ⟨A,c,rfl,hc1,hc2⟩:=hi.form;obtain ⟨B,d,rfl,hd1,hd2⟩:=hr.form;unfold maxLen at hc2 hd2;have hb0:=jaa w (.cells #[.string nm,.int .i64 pol,.bool comp,.slice A ins.length c,.slice B rules.length d] 56);have HI:=hid (hi.onOld hb0);have HR:=hid (hr.onOld hb0);clear hi hr;have HE:Hid (jbd ⟨nm,pol,comp,ins,rules⟩=(jdr nm && decide (1≤pol) && decide (pol≤7) && jfs ins && jgv ins.length rules)):=rfl;generalize jbd ⟨nm,pol,comp,ins,rules⟩=G at HE ⊢;generalize hw0:w.alloc (.cells #[.string nm,.int .i64 pol,.bool comp,.slice A ins.length c,.slice B rules.length d] 56)=w0 at *;have hg0:w.heap.size<w0.heap.size:=by rw [← hw0];simp
 have k0:w0.cell? ⟨w.heap.size,0,none⟩=some (.string nm):=by rw [← hw0];exact jab _ _ _ _ _ rfl
 have k1:w0.cell? ⟨w.heap.size,1,none⟩=some (.int .i64 pol):=by rw [← hw0];exact jab _ _ _ _ _ rfl
 have k3:w0.cell? ⟨w.heap.size,3,none⟩=some (.slice A ins.length c):=by rw [← hw0];exact jab _ _ _ _ _ rfl
 have k4:w0.cell? ⟨w.heap.size,4,none⟩=some (.slice B rules.length d):=by rw [← hw0];exact jab _ _ _ _ _ rfl
 go_enter Tryz.func83,Tryz.ntmps83
 go_wp2_with fail
 refine (jiz nm _ hs1).mono ?_;rintro e w1 ⟨rfl,hb1⟩;have j1:=(hb1.cell (p:=⟨w.heap.size,1,none⟩) hg0).trans k1;have j3:=(hb1.cell (p:=⟨w.heap.size,3,none⟩) hg0).trans k3;have j4:=(hb1.cell (p:=⟨w.heap.size,4,none⟩) hg0).trans k4;have HI1:=hid (HI.out.onOld hb1);have HR1:=hid (HR.out.onOld hb1);have hg1:=Nat.lt_of_lt_of_le hg0 hb1.size;clear k0 k1 k3 k4 HI HR;cases hn:jdr nm
 ·have HN:=hid hn;clear hn;go_wp2;go_ret;exact ⟨jad (by rw [HE.out,HN.out];rfl),bx hb0 hb1⟩
 ·have HN:=hid hn;clear hn;by_cases hp1:1≤pol
  ·by_cases hp7:pol≤7
   ·go_wp2_with fail
    refine (js3 ins _ _ HI1.out HS.out).mono ?_;rintro e w2 ⟨rfl,hb2⟩;have i3:=(hb2.cell (p:=⟨w.heap.size,3,none⟩) hg1).trans j3;have i4:=(hb2.cell (p:=⟨w.heap.size,4,none⟩) hg1).trans j4;have HR2:=hid (HR1.out.onOld hb2);clear j1 j3 j4 HI1 HR1;cases hq:jfs ins
    ·have HQ:=hid hq;clear hq;go_wp2;go_ret;exact ⟨jad (by rw [HE.out,HQ.out];simp),bx hb0 (bx hb1 hb2)⟩
    ·have HQ:=hid hq;clear hq;go_wp2_with fail
     refine (jvk rules ins.length _ _ HR2.out).mono ?_;rintro e w3 ⟨rfl,hb3⟩;go_wp2;go_ret;exact ⟨jad (by rw [HE.out,HQ.out,HN.out,decide_eq_true hp1,decide_eq_true hp7];rfl),bx hb0 (bx hb1 (bx hb2 hb3))⟩
   ·have hp7':7<pol:=by omega
    go_wp2;go_ret;exact ⟨jad (by rw [HE.out,decide_eq_false (show ¬ pol≤7 by omega)];simp),bx hb0 hb1⟩
  ·have hp1':pol<1:=by omega
   go_wp2;go_ret;exact ⟨jad (by rw [HE.out,decide_eq_false (show ¬ 1≤pol by omega)];simp),bx hb0 hb1⟩
theorem jvj (ng:Bool) (rs:List (Int × Int)) (n:Int) (v:Value) (w:World) (h:Sl Enc.rng w (Old w) rs v) :
  Calls Tryz.prog 92 #[.agg #[.bool ng,v],.int .i64 n] w fun e w'=>e = .returned (.bool (je8 (ng,rs) n))∧Below w.heap.size w w':=by
 have H:=hid h;obtain ⟨A,c,rfl,hc1,hc2,-⟩:=h;unfold maxLen at hc2;have hb0:=jaa w (.cells #[.bool ng,.slice A rs.length c] 85);have H1:=hid (H.out.onOld hb0);by_cases h0:rs.length=0
 ·have h0':(rs.length:Int)=0:=by omega
  have HE:Hid (je8 (ng,rs) n=true):=by simp [je8,h0,Hid]
  go_enter Tryz.func92,Tryz.ntmps92
  go_wp2;go_ret;exact ⟨jad HE.out.symm,jaa _ _⟩
 ·have h0':((rs.length:Int) == 0)=false:=beq_eq_false_iff_ne.2 (by omega);have HE:Hid (je8 (ng,rs) n=(hasB rs n != ng)):=by show _=_;unfold je8;rw [decide_eq_false h0];rfl
  generalize je8 (ng,rs) n=G at HE ⊢;have k0:(w.alloc (.cells #[.bool ng,.slice A rs.length c] 85)).cell? ⟨w.heap.size,0,none⟩=some (.bool ng):=jab _ _ _ _ _ rfl;have k1:(w.alloc (.cells #[.bool ng,.slice A rs.length c] 85)).cell? ⟨w.heap.size,1,none⟩=some (.slice A rs.length c):=jab _ _ _ _ _ rfl;have hg0:w.heap.size<(w.alloc (.cells #[.bool ng,.slice A rs.length c] 85)).heap.size:=by simp
  go_enter Tryz.func92,Tryz.ntmps92
  go_wp2_with fail
  generalize w.alloc (.cells #[.bool ng,.slice A rs.length c] 85)=w0 at *;go_region_held3 (fun w'=>w'.cell? ⟨w.heap.size,0,none⟩=some (.bool ng)∧w'.cell? ⟨w.heap.size,1,none⟩=some (.slice A rs.length c)) (first | exact ⟨k0,k1⟩ | exact ⟨j0,j1⟩)
   (first
   | (go_at_call 136;refine (jca rs _ n _ ?_).mono ?_;exact H1.out;rintro e w1 ⟨rfl,hb1⟩;have j0:=(hb1.cell (p:=⟨w.heap.size,0,none⟩) hg0).trans k0;have j1:=(hb1.cell (p:=⟨w.heap.size,1,none⟩) hg0).trans k1;have hb01:=bx hb0 (jcw hb1);clear hb1))
  all_goals go_wp2
  all_goals go_ret
  all_goals exact ⟨jad (by rw [HE.out];cases hasB rs n <;> cases ng <;> rfl),hb01⟩
theorem jzu (cs:List CellD) (y:Int) (l:List Int) (v u:Value) (w:World) (h:Sl Enc.cell w (Old w) cs v) (h':Sl Enc.int w (Old w) l u) :
  Calls Tryz.prog 58 #[.agg #[v,.int .i64 y],u] w fun e w'=>e = .returned (.bool (jbw cs l))∧Below w.heap.size w w':=by
 have H:=hid h;have HI:=hid h';obtain ⟨A,c,rfl,hc1,hc2,-⟩:=h;obtain ⟨B,d,rfl,hd1,hd2,-⟩:=h';unfold maxLen at hc2 hd2;have hb0:=jaa w (.cells #[.slice A cs.length c,.int .i64 y] 82);by_cases hn:cs.length=l.length
 ·have hne:((cs.length:Int) != (l.length:Int))=false:=by simp [hn]
  have HN:=hid hn;clear hn;go_enter Tryz.func58,Tryz.ntmps58
  go_wp2;go_loopw [16] (fun i wr=>∃ k:Nat,k≤cs.length∧i = .int .i64 k∧Hid (jbw cs l=jbw (cs.drop k) (l.drop k))∧Below w.heap.size w wr) (fun i _=>cs.length-(intOf i).toNat)
  case atStart=>exact ⟨0,Nat.zero_le _,rfl,rfl,hb0⟩
  case round =>
   obtain ⟨k,hk,rfl,hf,hb⟩:=hrel;have hsz:=hb.size;by_cases hlt:k<cs.length
   ·have hkl:k<l.length:=by have:=HN.out;omega
    obtain ⟨b,o,ng,rs,vr,rfl,_,hx,c1,c2,hr⟩:=(H.out.onOld hb).cell_at hlt;obtain ⟨bi,oi,x,rfl,_,hxi,i1⟩:=(HI.out.onOld hb).num_at hkl;obtain ⟨Ar,cr,rfl,hr1,hr2⟩:=hr.form;have hbz:=jaa wr (.cells #[.bool ng,.slice Ar rs.length cr] 85);have HR:=hid (hr.onOld hbz);have HX:=hid (ybr hx.out hxi.out);have k0:(wr.alloc (.cells #[.bool ng,.slice Ar rs.length cr] 85)).cell? ⟨wr.heap.size,0,none⟩=some (.bool ng):=jab _ _ _ _ _ rfl;have k1:(wr.alloc (.cells #[.bool ng,.slice Ar rs.length cr] 85)).cell? ⟨wr.heap.size,1,none⟩=some (.slice Ar rs.length cr):=jab _ _ _ _ _ rfl;have hg0:wr.heap.size<(wr.alloc (.cells #[.bool ng,.slice Ar rs.length cr] 85)).heap.size:=by simp
    have hbi:bi<wr.heap.size:=World.block_lt_of_cell? wr _ i1;have k2:=(hbz.cell (p:=⟨bi,oi+k,none⟩) hbi).trans i1;have hbi':bi<(wr.alloc (.cells #[.bool ng,.slice Ar rs.length cr] 85)).heap.size:=by omega
    have hkl':(k:Int)<l.length:=by omega
    have hk0':(0:Int)≤k:=by omega
    clear hr;go_wp2_with fail
    generalize wr.alloc (.cells #[.bool ng,.slice Ar rs.length cr] 85)=w0 at *;clear i1 c1 c2;go_region_held3 (fun w'=>w'.cell? ⟨wr.heap.size,0,none⟩=some (.bool ng)∧w'.cell? ⟨wr.heap.size,1,none⟩=some (.slice Ar rs.length cr)∧w'.cell? ⟨bi,oi+k,none⟩=some (.int .i64 x)) (first | exact ⟨k0,k1,k2⟩ | exact ⟨j0,j1,j2⟩)
     (first
     | (go_at_call 92;refine (jvj ng rs x _ _ ?_).mono ?_;exact HR.out;rintro e w1 ⟨rfl,hb1⟩;have j0:=(hb1.cell (p:=⟨wr.heap.size,0,none⟩) hg0).trans k0;have j1:=(hb1.cell (p:=⟨wr.heap.size,1,none⟩) hg0).trans k1;have j2:=(hb1.cell (p:=⟨bi,oi+k,none⟩) hbi').trans k2;have hb01:=bx hb (bx hbz (jcw hb1));clear hb1))
    cases hg:je8 (ng,rs) x
    ·have HG:=hid hg;clear hg;go_wp2;go_ret;exact ⟨jad (by rw [hf.out,HX.out,HG.out];rfl),hb01⟩
    ·have HG:=hid hg;clear hg;go_wp2;refine ⟨⟨k+1,by omega,by go_num,?_,hb01⟩,by simp [intOf];omega⟩
     show jbw cs l=_
     rw [hf.out,HX.out,HG.out];rfl
   ·go_wp2;go_ret;have hf':=hf.out;rw [List.drop_of_length_le (by omega),List.drop_of_length_le (by have:=HN.out;omega)] at hf';exact ⟨jad hf'.symm,hb⟩
 ·have hne:((cs.length:Int) != (l.length:Int))=true:=by simp;omega
  have HE:=hid (ybs hn);clear hn;go_enter Tryz.func58,Tryz.ntmps58
  go_wp2;go_ret;exact ⟨jad HE.out.symm,hb0⟩
theorem jfy:(Tryz.prog.info? 3).map (fun i=>(i.zero,i.size,i.bytes))=some (some (.int .i64 0),1,8):=by kernel_rfl
theorem jc6:Tryz.prog.underlying 22=some (.slice 3):=by kernel_rfl
theorem jjz (t:TabD) (l:List Int) (v u:Value) (w:World) (h:ja9 w (Old w) t v) (h':Sl Enc.int w (Old w) l u) (hs:jdm t) :
  Calls Tryz.prog 24 #[v,u] w (jj6 Enc.int 3 w.heap.size (idxL 0 t.rules l) w):=by
 obtain ⟨nm,pol,comp,ins,rules⟩:=t;obtain ⟨vi,vr,rfl,hi,hr⟩:=h;obtain ⟨_,_,hs3⟩:=hs;simp only at hi hr hs3 ⊢;have HI:=hid h';have H:=hid hr;obtain ⟨Ai,ci,rfl,-,-⟩:=hi.form;obtain ⟨A,c,rfl,hc1,hc2,-⟩:=hr;obtain ⟨B,d,rfl,hd1,hd2,-⟩:=h';unfold maxLen at hc2 hd2;clear hi;have hb0:=jaa w (.cells #[.string nm,.int .i64 pol,.bool comp,.slice Ai ins.length ci,.slice A rules.length c] 56);go_enter Tryz.func24,Tryz.ntmps24
 go_wp2;go_loopw [5,11] (fun r i wr=>∃ k:Nat,k≤rules.length∧i = .int .i64 k∧OwnG Enc.int wr w.heap.size w.heap.size 3 r (idxL 0 (rules.take k) l)∧Below w.heap.size w wr) (fun _ i _=>rules.length-(intOf i).toNat)
 case atStart=>exact ⟨0,Nat.zero_le _,rfl,OwnG.nil,hb0⟩
 case round =>
  obtain ⟨k,hk,rfl,hown,hb⟩:=hrel;have hsz:=hb.size;by_cases hlt:k<rules.length
  ·obtain ⟨b,o,cs,x,vc,rfl,_,hx,c1,c2,hr⟩:=(H.out.onOld hb).rule_at hlt;obtain ⟨Ar,cr,rfl,hr1,hr2⟩:=hr.form;have hbz:=jaa wr (.cells #[.slice Ar cs.length cr,.int .i64 x] 82);have HR:=hid (hr.onOld hbz);have HJ:=hid ((HI.out.onOld hb).onOld hbz);have HT:=hid (ybc hx.out l);have HO:=hid hown;have HN:Hid ((idxL 0 (rules.take k) l).length≤k):=by have:=jmn (rules.take k) l 0;rw [List.length_take] at this;show _≤_;omega
   clear hr hown;go_wp2_with fail
   refine (jzu cs x l _ _ _ HR.out HJ.out).mono ?_;rintro e w1 ⟨rfl,hb1⟩;have hbz1:=bx hbz hb1;have hb01:=bx hb hbz1;have hsz1:=hb01.size;cases hg:jbw cs l
   ·have HG:=hid hg;clear hg;go_wp2;refine ⟨⟨k+1,by omega,by go_num,?_,hb01⟩,by simp [intOf];omega⟩;rw [HT.out,HG.out];simpa using HO.out.next hbz1
   ·have HG:=hid hg;clear hg;have HO1:=hid ((HO.out.next hbz1).alloc (.cells #[.int .i64 (k:Int)] 3));have HY:Hid (Enc.int.rd (w1.alloc (.cells #[.int .i64 (k:Int)] 3)) (Off w.heap.size (w1.alloc (.cells #[.int .i64 (k:Int)] 3)) u5) (k:Int) [.int .i64 (k:Int)]):=rfl;have hb2:Below w.heap.size w (w1.alloc (.cells #[.int .i64 (k:Int)] 3)):=hb01.alloc hsz1 _;go_wp2_with (at_builtin;refine jaf (E:=Enc.int) _ rfl _ _ 22 rfl w.heap.size w.heap.size 3 8 (.int .i64 0) jc6 jfy rfl (by decide) _ _ rfl HO1.out ⟨w1.heap.size,0,none⟩ (k:Int) [.int .i64 (k:Int)] rfl HY.out (cell_one_new _ _ _) (by have:=HN.out;omega) (by have:=HN.out;unfold maxLen;omega) (by simp;omega) ?_;intro v' w3 hown' hgrow3 _)
    refine ⟨⟨k+1,by omega,by go_num,?_,hb2.grown hgrow3 (by simp;omega) (fun _ hr=>(HO.out.lt _ hr).1)⟩,by simp [intOf];omega⟩;rw [HT.out,HG.out];exact hown'
  ·go_wp2;go_ret;have e:rules.take k=rules:=List.take_of_length_le (by omega);rw [e] at hown;exact ⟨_,rfl,hown,hb⟩
open Go.Lib (hid)
open Go.RowKit
theorem jqz (p a b:Int) (w:World) :
  Calls Tryz.prog 129 #[.int .i64 p,.int .i64 a,.int .i64 b] w fun e w'=>e = .returned (.bool (jbf p a b))∧Below w.heap.size w w':=by
 by_cases h1:p=1
 ·subst h1;have HE:Hid (jbf 1 a b=true):=by simp [jbf,Hid]
  go_enter Tryz.func129,Tryz.ntmps129
  go_wp2;go_ret;exact ⟨jad HE.out.symm,Below.refl _ _⟩
 ·by_cases h2:p=2
  ·subst h2;have HE:Hid (jbf 2 a b=decide (a≠b)):=by simp [jbf,Hid]
   go_enter Tryz.func129,Tryz.ntmps129
   go_wp2;go_ret;refine ⟨jad ?_,Below.refl _ _⟩;rw [HE.out];by_cases hab:a=b <;> simp [hab]
  ·have h1':(p == 1)=false:=beq_eq_false_iff_ne.2 h1;have h2':(p == 2)=false:=beq_eq_false_iff_ne.2 h2;have HE:Hid (jbf p a b=false):=by simp [jbf,h1,h2,Hid]
   go_enter Tryz.func129,Tryz.ntmps129
   go_wp2;go_ret;exact ⟨jad HE.out.symm,Below.refl _ _⟩
theorem ysj {α:Type} {f:α→Bool} {l:List α} {k:Nat} {x:α} (h:l[k]? = some x):(l.drop k).any f=(f x || (l.drop (k+1)).any f):=by
 rw [jdi h];rfl
theorem jpf (p:Int) (l:List Int) (v:Value) (w:World) (h:Sl Enc.int w (Old w) l v) :
  Calls Tryz.prog 134 #[.int .i64 p,v] w fun e w'=>e = .returned (.bool (jax p l))∧Below w.heap.size w w':=by
 have H:=hid h;obtain ⟨A,c,rfl,hc1,hc2,-⟩:=h;unfold maxLen at hc2;by_cases h0:l.length=0
 ·have HE:Hid (jax p l=false):=by rw [List.length_eq_zero_iff.1 h0];rfl
  have h0':(l.length:Int)=0:=by omega
  go_enter Tryz.func134,Tryz.ntmps134
  go_wp2;go_loopw [5] (fun i wr=>i = .int .i64 1∧Below w.heap.size w wr) (fun _ _=>0)
  case atStart=>exact ⟨rfl,Below.refl _ _⟩
  case round =>
   obtain ⟨rfl,hb⟩:=hrel;go_wp2;go_ret;exact ⟨jad HE.out.symm,hb⟩
 ·obtain ⟨b0,o0,a,e0,hS0,ha,c0⟩:=H.out.num_at (k:=0) (by omega);subst e0;have HE:Hid (jax p l=(l.drop 1).any (jbf p a)):=by
   have:=ha.out
   cases l with
   | nil=>simp at this
   | cons z l=>simp at this;subst this;rfl
  have hb0:b0<w.heap.size:=hS0;have c0':w.cell? ⟨b0,o0,none⟩=some (.int .i64 a):=by simpa using c0
  clear c0 hS0;generalize hN:l.length=N at *;have HN:=hid hN;clear hN;have hl0:(0:Int)<N:=by omega
  have hn0:0<N:=by omega
  have hn1:¬ N=0:=by omega
  go_enter Tryz.func134,Tryz.ntmps134
  go_wp2;go_loopw [5] (fun i wr=>∃ k:Nat,1≤k∧k≤N∧i = .int .i64 k∧Hid ((l.drop 1).any (jbf p a)=(l.drop k).any (jbf p a))∧Below w.heap.size w wr) (fun i _=>N-(intOf i).toNat)
  case atStart=>exact ⟨1,by omega,by omega,rfl,rfl,Below.refl _ _⟩
  case round =>
   obtain ⟨k,hk1,hk,rfl,hf,hb⟩:=hrel;have hsz:=hb.size;by_cases hlt:k<N
   ·obtain ⟨b1,o1,x,e1,hS1,hx,c1⟩:=(H.out.onOld hb).num_at (show k<l.length by rw [HN.out];exact hlt);obtain ⟨rfl,rfl⟩:=jc5 e1;have k0:=(hb.cell (p:=⟨b0,o0,none⟩) hb0).trans c0';have hb0':b0<wr.heap.size:=by omega
    have HX:=hid (ysj (f:=jbf p a) hx.out);have hk':(k:Int)<N:=by omega
    have hk0':(0:Int)≤k:=by omega
    go_wp2_with fail
    go_region_held3 (fun w'=>w'.cell? ⟨b0,o0,none⟩=some (.int .i64 a)∧w'.cell? ⟨b0,o0+k,none⟩=some (.int .i64 x)) (first | exact ⟨k0,c1⟩ | exact ⟨j0,j1⟩)
     (first
     | (go_at_call 129;refine (jqz p a x _).mono ?_;rintro e w1 ⟨rfl,hb1⟩;have j0:=(hb1.cell (p:=⟨b0,o0,none⟩) hb0').trans k0;have j1:=(hb1.cell (p:=⟨b0,o0+k,none⟩) hb0').trans c1;have hb01:=bx hb (jcw hb1);clear hb1))
    cases hg:jbf p a x
    ·have HG:=hid hg;clear hg;go_wp2;refine ⟨⟨k+1,by omega,by omega,by go_num,?_,hb01⟩,by simp [intOf];omega⟩
     show (l.drop 1).any (jbf p a)=_
     rw [hf.out,HX.out,HG.out];rfl
    ·have HG:=hid hg;clear hg;go_wp2;go_ret;exact ⟨jad (by rw [HE.out,hf.out,HX.out,HG.out];rfl),hb01⟩
   ·go_wp2;go_ret;have hf':=hf.out;rw [List.drop_of_length_le (show l.length≤k by rw [HN.out];omega)] at hf';exact ⟨jad (by rw [HE.out,hf'];rfl),hb⟩
theorem jzs {l:List Int} {k:Nat} {x:Int} (h:l[k]? = some x):(l.take (k+1)).sum=(l.take k).sum+x:=by
 rw [jai h];simp
theorem jlo {l:List Int} (hb:∀ x,x∈l → -1000000≤x∧x≤1000000) (k:Nat):-1000000*(k:Int)≤(l.take k).sum∧(l.take k).sum≤1000000*(k:Int):=by
 induction k with
 | zero=>simp
 | succ k ih =>
  by_cases hk:k<l.length
  ·have hx:l[k]? = some l[k]:=List.getElem?_eq_getElem hk;rw [jzs hx];have:=hb _ (List.getElem_mem hk)
   push_cast
   omega
  ·rw [List.take_of_length_le (by omega)];rw [List.take_of_length_le (by omega)] at ih
   push_cast
   omega
theorem ym8 (l:List Int) (v:Value) (w:World) (h:Sl Enc.int w (Old w) l v) (hb:∀ x,x∈l → -1000000≤x∧x≤1000000) (hl:l.length≤6) :
  Calls Tryz.prog 175 #[v] w fun e w'=>e = .returned (.int .i64 l.sum)∧Below w.heap.size w w':=by
 have H:=hid h;have HB:=hid hb;clear hb;obtain ⟨A,c,rfl,hc1,hc2,-⟩:=h;unfold maxLen at hc2;go_enter Tryz.func175,Tryz.ntmps175
 go_wp2;go_loopw [3,8] (fun s i wr=>∃ k:Nat,k≤l.length∧i = .int .i64 k∧s = .int .i64 (l.take k).sum∧Below w.heap.size w wr) (fun _ i _=>l.length-(intOf i).toNat)
 case atStart=>exact ⟨0,Nat.zero_le _,rfl,rfl,Below.refl _ _⟩
 case round =>
  obtain ⟨k,hk,rfl,rfl,hbl⟩:=hrel;by_cases hlt:k<l.length
  ·obtain ⟨b,o,x,rfl,_,hx,c1⟩:=(H.out.onOld hbl).num_at hlt;have h1:=jlo HB.out k;have h2:=HB.out x (List.mem_of_getElem? hx.out);have HT:=hid (jzs hx.out);generalize (l.take k).sum=T at *;have w1:IntKind.i64.wrap (T+x)=T+x:=IntWalk.i64_in _ (by omega);go_wp2;exact ⟨⟨k+1,by omega,by go_num,by rw [HT.out],hbl⟩,by simp [intOf];omega⟩
  ·go_wp2;go_ret;have e:l.take k=l:=List.take_of_length_le (by omega);exact ⟨jew (by rw [e]),hbl⟩
theorem yk8 {l:List Int} {k:Nat} {x:Int} (h:l[k]? = some x) (h0:0<k):minL (l.take (k+1))=min (minL (l.take k)) x:=by
 rw [jai h];cases l with
 | nil=>simp at h
 | cons a l =>
  cases k with
  | zero=>omega
  | succ k=>simp [minL,List.foldl_append]
theorem yk5 {l:List Int} {k:Nat} {x:Int} (h:l[k]? = some x) (h0:0<k):maxL (l.take (k+1))=max (maxL (l.take k)) x:=by
 rw [jai h];cases l with
 | nil=>simp at h
 | cons a l =>
  cases k with
  | zero=>omega
  | succ k=>simp [maxL,List.foldl_append]
theorem yig (l:List Int) (v:Value) (w:World) (h:Sl Enc.int w (Old w) l v) (h0:0<l.length) :
  Calls Tryz.prog 173 #[v] w fun e w'=>e = .returned (.int .i64 (minL l))∧Below w.heap.size w w':=by
 have H:=hid h;obtain ⟨A,c,rfl,hc1,hc2,-⟩:=h;unfold maxLen at hc2;obtain ⟨b0,o0,a,e0,hS0,ha,c0⟩:=H.out.num_at (k:=0) h0;subst e0;have c0':w.cell? ⟨b0,o0,none⟩=some (.int .i64 a):=by simpa using c0
 have HA:Hid (minL (l.take 1)=a):=by
  have:=ha.out
  cases l with
  | nil=>simp at this
  | cons z l=>simp at this;subst this;rfl
 have hl0:(0:Int)<l.length:=by omega
 have hl1:1≤(l.length:Int):=by omega
 clear c0;go_enter Tryz.func173,Tryz.ntmps173
 go_wp2;go_loopw [3,4] (fun m i wr=>∃ k:Nat,1≤k∧k≤l.length∧i = .int .i64 k∧m = .int .i64 (minL (l.take k))∧Below w.heap.size w wr) (fun _ i _=>l.length-(intOf i).toNat)
 case atStart=>exact ⟨1,by omega,by omega,rfl,by rw [HA.out],Below.refl _ _⟩
 case round =>
  obtain ⟨k,hk1,hk,rfl,rfl,hbl⟩:=hrel;by_cases hlt:k<l.length
  ·obtain ⟨b1,o1,x,e1,_,hx,c1⟩:=(H.out.onOld hbl).num_at hlt;obtain ⟨rfl,rfl⟩:=jc5 e1;have HT:=hid (yk8 hx.out hk1);generalize minL (l.take k)=T at *;go_wp2;refine ⟨⟨k+1,by omega,by omega,by go_num,?_,hbl⟩,by simp [intOf];omega⟩;rw [HT.out]
   congr 1
   split <;> omega
  ·go_wp2;go_ret;have e:l.take k=l:=List.take_of_length_le (by omega);exact ⟨jew (by rw [e]),hbl⟩
theorem yif (l:List Int) (v:Value) (w:World) (h:Sl Enc.int w (Old w) l v) (h0:0<l.length) :
  Calls Tryz.prog 174 #[v] w fun e w'=>e = .returned (.int .i64 (maxL l))∧Below w.heap.size w w':=by
 have H:=hid h;obtain ⟨A,c,rfl,hc1,hc2,-⟩:=h;unfold maxLen at hc2;obtain ⟨b0,o0,a,e0,hS0,ha,c0⟩:=H.out.num_at (k:=0) h0;subst e0;have c0':w.cell? ⟨b0,o0,none⟩=some (.int .i64 a):=by simpa using c0
 have HA:Hid (maxL (l.take 1)=a):=by
  have:=ha.out
  cases l with
  | nil=>simp at this
  | cons z l=>simp at this;subst this;rfl
 have hl0:(0:Int)<l.length:=by omega
 have hl1:1≤(l.length:Int):=by omega
 clear c0;go_enter Tryz.func174,Tryz.ntmps174
 go_wp2;go_loopw [3,4] (fun m i wr=>∃ k:Nat,1≤k∧k≤l.length∧i = .int .i64 k∧m = .int .i64 (maxL (l.take k))∧Below w.heap.size w wr) (fun _ i _=>l.length-(intOf i).toNat)
 case atStart=>exact ⟨1,by omega,by omega,rfl,by rw [HA.out],Below.refl _ _⟩
 case round =>
  obtain ⟨k,hk1,hk,rfl,rfl,hbl⟩:=hrel;by_cases hlt:k<l.length
  ·obtain ⟨b1,o1,x,e1,_,hx,c1⟩:=(H.out.onOld hbl).num_at hlt;obtain ⟨rfl,rfl⟩:=jc5 e1;have HT:=hid (yk5 hx.out hk1);generalize maxL (l.take k)=T at *;go_wp2;refine ⟨⟨k+1,by omega,by omega,by go_num,?_,hbl⟩,by simp [intOf];omega⟩;rw [HT.out]
   congr 1
   split <;> omega
  ·go_wp2;go_ret;have e:l.take k=l:=List.take_of_length_le (by omega);exact ⟨jew (by rw [e]),hbl⟩
open Go.Lib (hid)
open Go.RowKit
theorem jqy (p:Int) (l:List Int) (v:Value) (w:World) (h:Sl Enc.int w (Old w) l v) (hb:∀ x,x∈l → -1000000≤x∧x≤1000000) (hl:l.length≤6) (h0:p=7∨0<l.length) :
  Calls Tryz.prog 135 #[.int .i64 p,v] w fun e w'=>e = .returned (.int .i64 (jcc p l))∧Below w.heap.size w w':=by
 have H:=hid h;have HB:=hid hb;clear hb;obtain ⟨A,c,rfl,hc1,hc2,-⟩:=h;unfold maxLen at hc2;by_cases h4:p=4
 ·subst h4;have h0':0<l.length:=by omega
  have HE:Hid (jcc 4 l=minL l):=rfl;go_enter Tryz.func135,Tryz.ntmps135
  go_wp2_with fail
  refine (yig l _ _ H.out h0').mono ?_;rintro e w1 ⟨rfl,hb1⟩;go_wp2;go_ret;exact ⟨jew HE.out.symm,hb1⟩
 ·have h4':(p == 4)=false:=beq_eq_false_iff_ne.2 h4;by_cases h5:p=5
  ·subst h5;have h0':0<l.length:=by omega
   have HE:Hid (jcc 5 l=maxL l):=rfl;go_enter Tryz.func135,Tryz.ntmps135
   go_wp2_with fail
   refine (yif l _ _ H.out h0').mono ?_;rintro e w1 ⟨rfl,hb1⟩;go_wp2;go_ret;exact ⟨jew HE.out.symm,hb1⟩
  ·have h5':(p == 5)=false:=beq_eq_false_iff_ne.2 h5;by_cases h6:p=6
   ·subst h6;have HE:Hid (jcc 6 l=l.sum):=rfl;go_enter Tryz.func135,Tryz.ntmps135
    go_wp2_with fail
    refine (ym8 l _ _ H.out HB.out hl).mono ?_;rintro e w1 ⟨rfl,hb1⟩;go_wp2;go_ret;exact ⟨jew HE.out.symm,hb1⟩
   ·have h6':(p == 6)=false:=beq_eq_false_iff_ne.2 h6;by_cases h7:p=7
    ·subst h7;have HE:Hid (jcc 7 l=l.length):=rfl;go_enter Tryz.func135,Tryz.ntmps135
     go_wp2;go_ret;exact ⟨jew HE.out.symm,Below.refl _ _⟩
    ·have h7':(p == 7)=false:=beq_eq_false_iff_ne.2 h7;have hp0:0<l.length:=by omega
     obtain ⟨b0,o0,a,e0,hS0,ha,c0⟩:=H.out.num_at (k:=0) hp0;subst e0;have c0':w.cell? ⟨b0,o0,none⟩=some (.int .i64 a):=by simpa using c0
     have HE:Hid (jcc p l=a):=by
      show _=_
      unfold jcc;rw [if_neg h4,if_neg h5,if_neg h6,if_neg h7];have:=ha.out
      cases l with
      | nil=>simp at this
      | cons z l=>simpa using this
     generalize jcc p l=G at *;generalize hN:l.length=N at *;have HN:=hid hN;clear hN c0 h0;have hl0:(0:Int)<N:=by omega
     have hn1:¬ N=0:=by omega
     go_enter Tryz.func135,Tryz.ntmps135
     go_wp2;go_ret;exact ⟨jew HE.out.symm,Below.refl _ _⟩
def jqf (rules:List RuleD) (j:Int):Int:=(rules[j.toNat]?.map (·.2)).getD 0
theorem map_take {α β:Type} {l:List α} {k:Nat} {x:α} (f:α → β) (h:l[k]? = some x):(l.take (k+1)).map f=(l.take k).map f ++ [f x]:=by
 rw [jai h];simp
theorem jft {R:Int × Bool × Int} (a:Int) (b:Bool) (c:Int) (h:R=(a,b,c)):Ending.returned (.tuple #[.int .i64 a,.bool b,.int .i64 c])=Ending.returned (.tuple #[.int .i64 R.1,.bool R.2.1,.int .i64 R.2.2]):=by subst h;rfl
def yey (r:Int × Bool × Int) (w:World) (e:Ending) (w':World):Prop:=e = .returned (.tuple #[.int .i64 r.1,.bool r.2.1,.int .i64 r.2.2])∧Below w.heap.size w w'
theorem jdv (t:TabD) (l:List Int) (v u:Value) (w:World) (h:ja9 w (Old w) t v) (h':Sl Enc.int w (Old w) l u) (hs:jdm t) :
  Calls Tryz.prog 91 #[v,u] w (yey (jb5 t l) w):=by
 have HS:=hid hs;have HT:=hid h;have HI:=hid h';have HGB:=hid (fun hg=>jxf (t:=t) hg l);have HRL:=hid (fun hg:jbd t=true=>(jcd.1 (jbi.1 hg).2.2.2.2).2.1);have HIX:=hid (ybb t.rules l []);have HVE:Hid (jb5 t l=if jbd t=true∧l.length=t.ins.length then jgc t.pol (jbl t.rules l) else (0,false,1)):=rfl;obtain ⟨nm,pol,comp,ins,rules⟩:=t;obtain ⟨vi,vr,rfl,hi,hr⟩:=h;simp only at hi hr HGB HRL HIX HVE;clear hs;have H:=hid hr;obtain ⟨Ai,ci,rfl,hi1,hi2,-⟩:=hi;obtain ⟨A,c,rfl,hc1,hc2,-⟩:=hr;obtain ⟨B,d,rfl,hd1,hd2,-⟩:=h';unfold maxLen at hi2 hc2 hd2;generalize jb5 ⟨nm,pol,comp,ins,rules⟩ l=R at *;have hb0:=jaa w (.cells #[.string nm,.int .i64 pol,.bool comp,.slice Ai ins.length ci,.slice A rules.length c] 56);generalize hw0:w.alloc (.cells #[.string nm,.int .i64 pol,.bool comp,.slice Ai ins.length ci,.slice A rules.length c] 56)=w0 at *;have hg0:w.heap.size<w0.heap.size:=by rw [← hw0];simp
 have k0:w0.cell? ⟨w.heap.size,0,none⟩=some (.string nm):=by rw [← hw0];exact jab _ _ _ _ _ rfl
 have k1:w0.cell? ⟨w.heap.size,1,none⟩=some (.int .i64 pol):=by rw [← hw0];exact jab _ _ _ _ _ rfl
 have k2:w0.cell? ⟨w.heap.size,2,none⟩=some (.bool comp):=by rw [← hw0];exact jab _ _ _ _ _ rfl
 have k3:w0.cell? ⟨w.heap.size,3,none⟩=some (.slice Ai ins.length ci):=by rw [← hw0];exact jab _ _ _ _ _ rfl
 have k4:w0.cell? ⟨w.heap.size,4,none⟩=some (.slice A rules.length c):=by rw [← hw0];exact jab _ _ _ _ _ rfl
 have HT0:=hid (HT.out.onOld hb0);go_enter Tryz.func91,Tryz.ntmps91
 go_wp2_with fail
 refine (jeb _ _ _ HT0.out HS.out).mono ?_;rintro e w1 ⟨rfl,hb1⟩;have j0:=(hb1.cell (p:=⟨w.heap.size,0,none⟩) hg0).trans k0;have j1:=(hb1.cell (p:=⟨w.heap.size,1,none⟩) hg0).trans k1;have j2:=(hb1.cell (p:=⟨w.heap.size,2,none⟩) hg0).trans k2;have j3:=(hb1.cell (p:=⟨w.heap.size,3,none⟩) hg0).trans k3;have j4:=(hb1.cell (p:=⟨w.heap.size,4,none⟩) hg0).trans k4;have hb01:=bx hb0 hb1;have HT1:=hid (HT.out.onOld hb01);have HI1:=hid (HI.out.onOld hb01);have hg1:=Nat.lt_of_lt_of_le hg0 hb1.size;clear k0 k1 k2 k3 k4 hw0 hb1;cases hg:jbd ⟨nm,pol,comp,ins,rules⟩
 ·have HG:=hid hg;clear hg;go_wp2;go_ret3
  exact ⟨jft _ _ _ (by rw [HVE.out,if_neg (by rw [HG.out];simp)]),hb01⟩
 ·have HG:=hid hg;clear hg;by_cases hn:l.length=ins.length
  ·have hne:((l.length:Int) != (ins.length:Int))=false:=by simp [hn]
   have HV:Hid (R=jgc pol (jbl rules l)):=by show _=_;rw [HVE.out,if_pos ⟨HG.out,hn⟩]
   have hrl:rules.length≤6:=HRL.out HG.out;have HBD:=hid (HGB.out HG.out);have HN:=hid hn;clear hn HGB HRL HVE;go_wp2_with fail
   refine (jjz _ l _ _ _ HT1.out HI1.out HS.out).mono ?_;rintro e w2 ⟨v2,rfl,ho2,hb2⟩;simp only at ho2;have i1:=(hb2.cell (p:=⟨w.heap.size,1,none⟩) hg1).trans j1;have i4:=(hb2.cell (p:=⟨w.heap.size,4,none⟩) hg1).trans j4;have hb02:=bx hb01 hb2;have hg2:=Nat.lt_of_lt_of_le hg1 hb2.size;have HM:=hid (ho2.slOld (Nat.le_refl _));have H2:=hid (H.out.onOld hb02);have hml:(idxL 0 rules l).length≤6:=Nat.le_trans (jmn rules l 0) hrl;obtain ⟨hix1,hix2⟩:=HIX.out;have HX1:=hid hix1;have HX2:Hid ((idxL 0 rules l).map (jqf rules)=jbl rules l):=hix2;clear j0 j1 j2 j3 j4 ho2 hb2 hb01 HIX hix1 hix2 HT0 HT1 HI1;generalize idxL 0 rules l=M at *;obtain ⟨C,f,rfl,hm1,hm2⟩:=HM.out.form;unfold maxLen at hm2;go_wp2;go_loopw [7,25] (fun r i wr=>∃ k:Nat,k≤M.length∧i = .int .i64 k∧OwnG Enc.int wr w2.heap.size w2.heap.size 3 r ((M.take k).map (jqf rules))∧Below w2.heap.size w2 wr) (fun _ i _=>M.length-(intOf i).toNat)
   case atStart=>exact ⟨0,Nat.zero_le _,rfl,OwnG.nil,Below.refl _ _⟩
   case round =>
    obtain ⟨k,hk,rfl,hown,hbl⟩:=hrel;have hsz:=hbl.size;by_cases hlt:k<M.length
    ·obtain ⟨bm,om,j,rfl,_,hj,m1⟩:=(HM.out.onOld hbl).num_at hlt;obtain ⟨n,hjn,hnr⟩:=HX1.out j (List.mem_of_getElem? hj.out);have hnr':n<rules.length:=by simpa using hnr
     obtain ⟨b,o,cs,x,vc,rfl,_,hx,c1,c2,hr⟩:=(H2.out.onOld hbl).rule_at hnr';have a4:=(hbl.cell (p:=⟨w.heap.size,4,none⟩) hg2).trans i4;have HO:=hid hown;have HTK:Hid ((M.take (k+1)).map (jqf rules)=(M.take k).map (jqf rules) ++ [x]):=by
      show _=_
      rw [map_take _ hj.out]
      congr 1
      have:jqf rules j=x:=by
       unfold jqf;rw [hjn];show (rules[n]?.map (·.2)).getD 0=x;rw [hx.out];rfl
      rw [this]
     have hlen:((M.take k).map (jqf rules)).length=k:=by rw [List.length_map,List.length_take];omega
     have HL:=hid hlen;subst hjn;have hn0:(0:Int)≤n:=by omega
     have hn1:(n:Int)<rules.length:=by omega
     have hbz:=hbl.alloc hsz (.cells #[.int .i64 x] 3);have HO1:=hid (HO.out.alloc (.cells #[.int .i64 x] 3));have HY:Hid (Enc.int.rd (wr.alloc (.cells #[.int .i64 x] 3)) (Off w2.heap.size (wr.alloc (.cells #[.int .i64 x] 3)) u7) x [.int .i64 x]):=rfl;clear hr hown hlen hnr;go_wp2_with (at_builtin;refine jaf (E:=Enc.int) _ rfl _ _ 22 rfl w2.heap.size w2.heap.size 3 8 (.int .i64 0) jc6 jfy rfl (by decide) _ _ rfl HO1.out ⟨wr.heap.size,0,none⟩ x [.int .i64 x] rfl HY.out (cell_one_new _ _ _) (by rw [HL.out];omega) (by rw [HL.out];unfold maxLen;omega) (by simp;omega) ?_;intro v' w3 hown' hgrow3 _)
     refine ⟨⟨k+1,by omega,by go_num,by rw [HTK.out];exact hown',hbz.grown hgrow3 (by simp;omega) (fun _ hr=>(HO.out.lt _ hr).1)⟩,by simp [intOf];omega⟩
    ·have e:M.take k=M:=List.take_of_length_le (by omega);rw [e,HX2.out] at hown;have HO:=hid (hown.slOld (Nat.le_refl _));have a1:=(hbl.cell (p:=⟨w.heap.size,1,none⟩) hg2).trans i1;have hgr:=Nat.lt_of_lt_of_le hg2 hsz;clear hown e;obtain ⟨hob1,hob2⟩:=HBD.out;have HB2:=hid hob2;clear hob2;generalize jbl rules l=O at *;obtain ⟨D,g,rfl,hg1',hg2'⟩:=HO.out.form;unfold maxLen at hg2';by_cases h0:O.length=0
     ·have h0':(O.length:Int)=0:=by omega
      by_cases hp:pol=7
      ·subst hp;have HC:Hid (jgc 7 O=(jcc 7 O,true,0)):=by
        show _=_
        unfold jgc;rw [if_neg (by simp),jcz (by omega) (by omega)];rfl
       have HCF:=hid (jcz (p:=7) (l:=O) (by omega) (by omega));go_wp2_with fail
       refine (jpf 7 O _ _ (by have:=HO.out;rw [h0] at this;exact this)).mono ?_;rintro e w4 ⟨rfl,hb4⟩;rw [HCF.out];have a1':=(hb4.cell (p:=⟨w.heap.size,1,none⟩) hgr).trans a1;go_wp2_with fail
       refine (jqy 7 O _ _ (by have:=HO.out.onOld hb4;rw [h0] at this;exact this) HB2.out hob1 (.inl rfl)).mono ?_;rintro e w5 ⟨rfl,hb5⟩;go_wp2;go_ret3
       exact ⟨jft _ _ _ (by rw [HV.out,HC.out]),bx hb02 (bx hbl (bx hb4 hb5))⟩
      ·have hp':(pol != 7)=true:=by simpa using hp
       have HC:Hid (jgc pol O=(0,false,0)):=by show _=_;unfold jgc;rw [if_pos ⟨h0,hp⟩]
       go_wp2;go_ret3
       exact ⟨jft _ _ _ (by rw [HV.out,HC.out]),bx hb02 hbl⟩
     ·have h0':((O.length:Int) == 0)=false:=beq_eq_false_iff_ne.2 (by omega);go_wp2_with fail
      refine (jpf pol O _ _ HO.out).mono ?_;rintro e w4 ⟨rfl,hb4⟩;have a1':=(hb4.cell (p:=⟨w.heap.size,1,none⟩) hgr).trans a1;cases hcf:jax pol O
      ·have HC:Hid (jgc pol O=(jcc pol O,true,0)):=by
        show _=_
        unfold jgc;rw [if_neg (fun hh=>h0 hh.1),hcf];rfl
       have HF:=hid hcf;clear hcf;go_wp2_with fail
       refine (jqy pol O _ _ (HO.out.onOld hb4) HB2.out hob1 (.inr (by omega))).mono ?_;rintro e w5 ⟨rfl,hb5⟩;go_wp2;go_ret3
       exact ⟨jft _ _ _ (by rw [HV.out,HC.out]),bx hb02 (bx hbl (bx hb4 hb5))⟩
      ·have HC:Hid (jgc pol O=(0,false,4)):=by
        show _=_
        unfold jgc;rw [if_neg (fun hh=>h0 hh.1),hcf];rfl
       have HF:=hid hcf;clear hcf;go_wp2;go_ret3
       exact ⟨jft _ _ _ (by rw [HV.out,HC.out]),bx hb02 (bx hbl hb4)⟩
  ·have hne:((l.length:Int) != (ins.length:Int))=true:=by simp;omega
   have HNN:=hid hn;clear hn;go_wp2;go_ret3
   exact ⟨jft _ _ _ (by rw [HVE.out,if_neg (fun hh=>HNN.out hh.2)]),hb01⟩
open Go.Lib (hid)
open Go.RowKit
def lowS (l:List RuleD):Int:=(l.map fun r=>min r.2 0).sum
def jo0 (l:List RuleD):Int:=(l.map fun r=>max r.2 0).sum
theorem jus {l:List RuleD} {k:Nat} {cs:List CellD} {x:Int} (h:l[k]? = some (cs,x)):lowS (l.take (k+1))=lowS (l.take k)+min x 0:=by
 unfold lowS;rw [map_take _ h];simp
theorem jro {l:List RuleD} {k:Nat} {cs:List CellD} {x:Int} (h:l[k]? = some (cs,x)):jo0 (l.take (k+1))=jo0 (l.take k)+max x 0:=by
 unfold jo0;rw [map_take _ h];simp
theorem jx0 {l:List RuleD} (hb:∀ r,r∈l → -1000000≤r.2∧r.2≤1000000) (k:Nat):(-1000000*(k:Int)≤lowS (l.take k)∧lowS (l.take k)≤0)∧0≤jo0 (l.take k)∧jo0 (l.take k)≤1000000*(k:Int):=by
 induction k with
 | zero=>simp [lowS,jo0]
 | succ k ih =>
  by_cases hk:k<l.length
  ·have hx:l[k]? = some l[k]:=List.getElem?_eq_getElem hk;have hm:=hb _ (List.getElem_mem hk);generalize l[k]=r at hx hm;obtain ⟨cs,x⟩:=r;rw [jus hx,jro hx];simp only at hm
   push_cast
   omega
  ·rw [List.take_of_length_le (by omega)];rw [List.take_of_length_le (by omega)] at ih
   push_cast
   omega
def jx7 (r:Int × Int) (w:World) (e:Ending) (w':World):Prop:=e = .returned (.agg #[.int .i64 r.1,.int .i64 r.2])∧Below w.heap.size w w'
theorem yfj {w:World} {g:Nat} (h:g<w.heap.size) (o:Obj):(w.alloc o).heap[g]? = w.heap[g]?:=(jaa w o).block g h
def Two (w:World) (g:Nat) (x y:Int):Prop:=g<w.heap.size∧w.cell? ⟨g,0,none⟩=some (.int .i64 x)∧w.cell? ⟨g,1,none⟩=some (.int .i64 y)∧w.frozen? ⟨g,0,none⟩=false∧w.frozen? ⟨g,1,none⟩=false
theorem Two.new (w:World) (x y:Int) (e:Nat):Two (w.alloc (.cells #[.int .i64 x,.int .i64 y] e)) w.heap.size x y:=⟨by simp,jab _ _ _ _ _ rfl,jab _ _ _ _ _ rfl,by simp,by simp⟩
theorem Two.alloc {w:World} {g:Nat} {x y:Int} (h:Two w g x y) (o:Obj):Two (w.alloc o) g x y:=by
 obtain ⟨h0,h1,h2,h3,h4⟩:=h;refine ⟨by simp;omega,(World.cell?_alloc_lt _ _ _ h0).trans h1,(World.cell?_alloc_lt _ _ _ h0).trans h2,?_,?_⟩
 ·exact (World.frozen?_of_block (yfj h0 o)).trans h3
 ·exact (World.frozen?_of_block (yfj h0 o)).trans h4
theorem Two.next {w w':World} {g:Nat} {x y:Int} (h:Two w g x y) (hb:Below w.heap.size w w'):Two w' g x y:=by
 obtain ⟨h0,h1,h2,h3,h4⟩:=h;exact ⟨Nat.lt_of_lt_of_le h0 hb.size,(hb.cell (p:=⟨g,0,none⟩) h0).trans h1,(hb.cell (p:=⟨g,1,none⟩) h0).trans h2,(World.frozen?_of_block (hb.block g h0)).trans h3,(World.frozen?_of_block (hb.block g h0)).trans h4⟩
theorem Two.set0 {w:World} {g:Nat} {x y:Int} (h:Two w g x y) (z:Int):Two (w.setCell ⟨g,0,none⟩ (.int .i64 z)) g z y:=by
 obtain ⟨h0,h1,h2,h3,h4⟩:=h;exact ⟨by simpa [World.setCell] using h0,World.cell?_setCell_same w _ _ h1,(World.cell?_setCell_other w _ _ _ (by simp)).trans h2,by simpa using h3,by simpa using h4⟩
theorem Two.set1 {w:World} {g:Nat} {x y:Int} (h:Two w g x y) (z:Int):Two (w.setCell ⟨g,1,none⟩ (.int .i64 z)) g x z:=by
 obtain ⟨h0,h1,h2,h3,h4⟩:=h;exact ⟨by simpa [World.setCell] using h0,(World.cell?_setCell_other w _ _ _ (by simp)).trans h1,World.cell?_setCell_same w _ _ h2,by simpa using h3,by simpa using h4⟩
theorem Two.other {w:World} {g g' o:Nat} {x y:Int} (h:Two w g x y) (hne:g'≠g) (v:Value):Two (w.setCell ⟨g',o,none⟩ v) g x y:=by
 obtain ⟨h0,h1,h2,h3,h4⟩:=h;exact ⟨by simpa [World.setCell] using h0,(World.cell?_setCell_other w _ _ _ (by simp)).trans h1,(World.cell?_setCell_other w _ _ _ (by simp)).trans h2,by simpa using h3,by simpa using h4⟩
theorem jm0 {fn:Func} {p:Tmp} {tmps:Array Value} {W:World} {g:Nat} {x y:Int} (h:fn.results = #[.cell p 87]) (hp:tmps.getD p undef = .pointer (some ⟨g,0,none⟩)) (ht:Two W g x y) :
  (results fn tmps).run Tryz.prog W = .ok (.agg #[.int .i64 x,.int .i64 y]) W:=by
 obtain ⟨_,q0,q1,_,_⟩:=ht;have hp':tmps[p]?.getD undef = .pointer (some ⟨g,0,none⟩):=by simpa using hp
 simp [results,h,hp',go_sem,q0,q1]
theorem yir (l:List RuleD) (v:Value) (w:World) (h:Sl Enc.rule w (Old w) l v) (hb:∀ r,r∈l → -1000000≤r.2∧r.2≤1000000) (hl:l.length≤6) :
  Calls Tryz.prog 164 #[v] w (jx7 (lowS l,jo0 l) w):=by
 have H:=hid h;have HB:=hid hb;clear hb;obtain ⟨A,c,rfl,hc1,hc2,-⟩:=h;unfold maxLen at hc2;go_enter Tryz.func164,Tryz.ntmps164
 go_wp2;go_loopw [8] (fun i wr=>∃ k:Nat,k≤l.length∧i = .int .i64 k∧Two wr (w.heap.size+1) (lowS (l.take k)) (jo0 (l.take k))∧Two wr w.heap.size 0 0∧Below w.heap.size w wr) (fun i _=>l.length-(intOf i).toNat)
 case atStart =>
  have e:=Two.new (w.alloc (.cells #[.int .i64 0,.int .i64 0] 87)) 0 0 87;exact ⟨0,Nat.zero_le _,rfl,by simpa [lowS,jo0] using e,(Two.new w 0 0 _).alloc _,((Below.refl _ _).alloc (Nat.le_refl _) _).alloc (by simp) _⟩
 case round =>
  obtain ⟨k,hk,rfl,ht1,ht2,hbl⟩:=hrel;have HT1':=hid ht1;have HT2':=hid ht2;obtain ⟨hgl,r0,r1,f0,f1⟩:=ht1;obtain ⟨_,s0,s1,g0,g1⟩:=ht2;by_cases hlt:k<l.length
  ·obtain ⟨b,o,cs,x,vc,rfl,hS,hx,c1,c2,hr⟩:=(H.out.below (fun _ h=>h) hbl).rule_at hlt;have hb0:b<w.heap.size:=hS;obtain ⟨Ar,cr,rfl,hr1,hr2⟩:=hr.form;obtain ⟨⟨q1,q2⟩,q3,q4⟩:=jx0 HB.out k;have q5:=HB.out _ (List.mem_of_getElem? hx.out);have HT1:=hid (jus hx.out);have HT2:=hid (jro hx.out);generalize lowS (l.take k)=T1 at *;generalize jo0 (l.take k)=T2 at *;simp only at q5;clear hr;have w1:IntKind.i64.wrap (T1+min x 0)=T1+min x 0:=IntWalk.i64_in _ (by omega);have w2:IntKind.i64.wrap (T2+max x 0)=T2+max x 0:=IntWalk.i64_in _ (by omega);go_wp2;clear w1 w2;refine ⟨⟨k+1,by omega,by go_num,?_,?_,?_⟩,by simp [intOf];omega⟩
   ·rw [HT1.out,HT2.out,show min x 0=(if 0<x then 0 else x) from by split <;> omega,show max x 0=(if x<0 then 0 else x) from by split <;> omega];exact ((HT1'.out.set0 _).set1 _).alloc _
   ·exact ((HT2'.out.other (by omega) _).other (by omega) _).alloc _
   ·exact ((hbl.setCell (by simp) _).setCell (by simp) _).alloc (by simpa [World.setCell] using hbl.size) _
  ·have e:l.take k=l:=List.take_of_length_le (by omega);rw [e] at r0 r1;go_wp2
   (try simp only [Exit.inBlock,Exit.then])
   exact bodyPost_ret (jm0 Tryz.results164 rfl ((HT2'.out.set0 _).set1 _)) rfl ⟨rfl,(hbl.setCell (by simp) _).setCell (by simp) _⟩
theorem jv8 (l:List RuleD) (v:Value) (w:World) (h:Sl Enc.rule w (Old w) l v) (h0:0<l.length) :
  Calls Tryz.prog 165 #[v] w (jx7 (minL (l.map (·.2)),maxL (l.map (·.2))) w):=by
 have H:=hid h;obtain ⟨A,c,rfl,hc1,hc2,-⟩:=h;unfold maxLen at hc2;obtain ⟨b0,o0,cs0,x0,v0,e0,hS0,hx0,c10,c20,hr0⟩:=H.out.rule_at (k:=0) h0;subst e0;have c2':w.cell? ⟨b0,o0+1,none⟩=some (.int .i64 x0):=by simpa using c20
 have HX0:=hid hx0.out;clear c10 c20 hr0 hx0;have hb0:b0<w.heap.size:=hS0;have HE1:Hid ((l.map (·.2)).foldl min x0=minL (l.map (·.2))):=by
  have:=HX0.out
  cases l with
  | nil=>simp at this
  | cons z l=>simp at this;subst this;simp [minL,Hid]
 have HE2:Hid ((l.map (·.2)).foldl max x0=maxL (l.map (·.2))):=by
  have:=HX0.out
  cases l with
  | nil=>simp at this
  | cons z l=>simp at this;subst this;simp [maxL,Hid]
 generalize minL (l.map (·.2))=R1 at *;generalize maxL (l.map (·.2))=R2 at *;generalize hN:l.length=N at *;have HN:=hid hN;clear hN;have hl0:(0:Int)<N:=by omega
 have hn1:¬ N=0:=by omega
 have k0:=((jaa w (.cells #[.int .i64 0,.int .i64 0] 87)).cell (p:=⟨b0,o0+1,none⟩) hb0).trans c2';go_enter Tryz.func165,Tryz.ntmps165
 go_wp2_with fail
 go_region
 go_wp2;go_loopw [17] (fun i wr=>∃ k:Nat,k≤N∧i = .int .i64 k∧Two wr (w.heap.size+1) (((l.take k).map (·.2)).foldl min x0) (((l.take k).map (·.2)).foldl max x0)∧Two wr w.heap.size 0 0∧Below w.heap.size w wr) (fun i _=>N-(intOf i).toNat)
 case atStart =>
  have e:=Two.new (w.alloc (.cells #[.int .i64 0,.int .i64 0] 87)) x0 x0 87;rw [show (w.alloc (.cells #[.int .i64 0,.int .i64 0] 87)).heap.size=w.heap.size+1 from by simp] at e;exact ⟨0,Nat.zero_le _,rfl,e,(Two.new w 0 0 _).alloc _,(((Below.refl _ _).alloc (Nat.le_refl _) _).alloc (by simp) _).drew⟩
 case round =>
  clear k0;obtain ⟨k,hk,rfl,ht1,ht2,hbl⟩:=hrel;have HT1':=hid ht1;have HT2':=hid ht2;obtain ⟨hgl,r0,r1,f0,f1⟩:=ht1;obtain ⟨_,s0,s1,g0,g1⟩:=ht2;by_cases hlt:k<N
  ·obtain ⟨b,o,cs,x,vc,eb,hS,hx,c1,c2,hr⟩:=(H.out.below (fun _ h=>h) hbl).rule_at (show k<l.length by rw [HN.out];exact hlt);obtain ⟨rfl,rfl⟩:=jc5 eb;obtain ⟨Ar,cr,rfl,hr1,hr2⟩:=hr.form;have HT1:Hid (((l.take (k+1)).map (·.2)).foldl min x0=min (((l.take k).map (·.2)).foldl min x0) x):=by show _=_;rw [map_take _ hx.out,List.foldl_append];rfl
   have HT2:Hid (((l.take (k+1)).map (·.2)).foldl max x0=max (((l.take k).map (·.2)).foldl max x0) x):=by show _=_;rw [map_take _ hx.out,List.foldl_append];rfl
   generalize ((l.take k).map (·.2)).foldl min x0=T1 at *;generalize ((l.take k).map (·.2)).foldl max x0=T2 at *;clear hr eb;go_wp2;refine ⟨⟨k+1,by omega,by go_num,?_,?_,?_⟩,by simp [intOf];omega⟩
   ·rw [HT1.out,HT2.out,show min T1 x=(if x<T1 then x else T1) from by split <;> omega,show max T2 x=(if T2<x then x else T2) from by split <;> omega];exact ((HT1'.out.set0 _).set1 _).alloc _
   ·exact ((HT2'.out.other (by omega) _).other (by omega) _).alloc _
   ·exact ((hbl.setCell (by simp) _).setCell (by simp) _).alloc (by simpa [World.setCell] using hbl.size) _
  ·have e:l.take k=l:=List.take_of_length_le (by rw [HN.out];omega);rw [e,HE1.out] at r0;rw [e,HE2.out] at r1;go_wp2
   (try simp only [Exit.inBlock,Exit.then])
   exact bodyPost_ret (jm0 Tryz.results165 rfl ((HT2'.out.set0 _).set1 _)) rfl ⟨rfl,(hbl.setCell (by simp) _).setCell (by simp) _⟩
theorem ji0 (t:TabD) (v:Value) (w:World) (h:ja9 w (Old w) t v) (hs:jdm t) :
  Calls Tryz.prog 125 #[v] w (jx7 (jgq t) w):=by
 have HS:=hid hs;have HT:=hid h;have HRS:=hid (fun hg:jbd t=true=>jcd.1 (jbi.1 hg).2.2.2.2);have HVE:Hid (jgq t=if jbd t then (if t.pol=7 then (0,(t.rules.length:Int)) else if t.pol=6 then (lowS t.rules,jo0 t.rules) else (minL (t.rules.map (·.2)),maxL (t.rules.map (·.2)))) else (0,0)):=rfl;obtain ⟨nm,pol,comp,ins,rules⟩:=t;obtain ⟨vi,vr,rfl,hi,hr⟩:=h;simp only at hi hr HRS HVE;clear hs;have H:=hid hr;obtain ⟨Ai,ci,rfl,hi1,hi2,-⟩:=hi;obtain ⟨A,c,rfl,hc1,hc2,-⟩:=hr;unfold maxLen at hi2 hc2;generalize jgq ⟨nm,pol,comp,ins,rules⟩=R at *;have hb0:=jaa w (.cells #[.string nm,.int .i64 pol,.bool comp,.slice Ai ins.length ci,.slice A rules.length c] 56);generalize hw0:w.alloc (.cells #[.string nm,.int .i64 pol,.bool comp,.slice Ai ins.length ci,.slice A rules.length c] 56)=w0 at *;have hg0:w.heap.size<w0.heap.size:=by rw [← hw0];simp
 have hs0:w0.heap.size=w.heap.size+1:=by rw [← hw0];simp
 have k0:w0.cell? ⟨w.heap.size,0,none⟩=some (.string nm):=by rw [← hw0];exact jab _ _ _ _ _ rfl
 have k1:w0.cell? ⟨w.heap.size,1,none⟩=some (.int .i64 pol):=by rw [← hw0];exact jab _ _ _ _ _ rfl
 have k2:w0.cell? ⟨w.heap.size,2,none⟩=some (.bool comp):=by rw [← hw0];exact jab _ _ _ _ _ rfl
 have k3:w0.cell? ⟨w.heap.size,3,none⟩=some (.slice Ai ins.length ci):=by rw [← hw0];exact jab _ _ _ _ _ rfl
 have k4:w0.cell? ⟨w.heap.size,4,none⟩=some (.slice A rules.length c):=by rw [← hw0];exact jab _ _ _ _ _ rfl
 have hb0':=jaa w0 (.cells #[.int .i64 0,.int .i64 0] 87);have TW:=Two.new w0 0 0 87;rw [hs0] at TW;generalize hw1:w0.alloc (.cells #[.int .i64 0,.int .i64 0] 87)=w1 at *;have k0:=(hb0'.cell (p:=⟨w.heap.size,0,none⟩) hg0).trans k0;have k1:=(hb0'.cell (p:=⟨w.heap.size,1,none⟩) hg0).trans k1;have k2:=(hb0'.cell (p:=⟨w.heap.size,2,none⟩) hg0).trans k2;have k3:=(hb0'.cell (p:=⟨w.heap.size,3,none⟩) hg0).trans k3;have k4:=(hb0'.cell (p:=⟨w.heap.size,4,none⟩) hg0).trans k4;have hb01:=bx hb0 hb0';have hg1:=Nat.lt_of_lt_of_le hg0 hb0'.size;have HT0:=hid (HT.out.onOld hb01);have HTW:=hid TW;clear TW;go_enter Tryz.func125,Tryz.ntmps125
 go_wp2_with fail
 refine (jeb _ _ _ HT0.out HS.out).mono ?_;rintro e w2 ⟨rfl,hb2⟩;have j1:=(hb2.cell (p:=⟨w.heap.size,1,none⟩) hg1).trans k1;have j4:=(hb2.cell (p:=⟨w.heap.size,4,none⟩) hg1).trans k4;have hg2:=Nat.lt_of_lt_of_le hg1 hb2.size;have hb02:=bx hb01 hb2;have hsz2:=hb02.size;have TW2:=HTW.out.next hb2;have HTW2:=hid TW2;obtain ⟨hgl,r0,r1,f0,f1⟩:=TW2;have H2:=hid (H.out.onOld hb02);clear hw0 hw1 hb2 hs0;cases hg:jbd ⟨nm,pol,comp,ins,rules⟩
 ·have HV:Hid (R=(0,0)):=by show _=_;rw [HVE.out,hg];rfl
  clear hg;go_wp2
  (try simp only [Exit.inBlock,Exit.then])
  exact bodyPost_ret (jm0 Tryz.results125 rfl ((HTW2.out.set0 _).set1 _)) rfl ⟨by rw [HV.out],(hb02.setCell (by simp) _).setCell (by simp) _⟩
 ·obtain ⟨hr1,hr6,hrb⟩:=HRS.out hg;have HRB:Hid (∀ r:RuleD,r∈rules → -1000000≤r.2∧r.2≤1000000):=fun r hr=>⟨(jh2.1 (hrb r hr)).1,(jh2.1 (hrb r hr)).2.1⟩;have HV:=hid (HVE.out);rw [hg] at HV;clear hg hrb HVE HRS;by_cases h7:pol=7
  ·subst h7;have HV':Hid (R=(0,(rules.length:Int))):=HV.out;go_wp2
   (try simp only [Exit.inBlock,Exit.then])
   exact bodyPost_ret (jm0 Tryz.results125 rfl ((HTW2.out.set0 _).set1 _)) rfl ⟨by rw [HV'.out],(hb02.setCell (by simp) _).setCell (by simp) _⟩
  ·have h7':(pol == 7)=false:=beq_eq_false_iff_ne.2 h7;by_cases h6:pol=6
   ·subst h6;have HV':Hid (R=(lowS rules,jo0 rules)):=HV.out;go_wp2_with fail
    refine (yir rules _ _ H2.out HRB.out hr6).mono ?_;rintro e w3 ⟨rfl,hb3⟩;have HTW3:=hid (HTW2.out.next hb3);obtain ⟨_,r0',r1',f0',f1'⟩:=HTW2.out.next hb3;have hb03:=bx hb02 hb3;clear r0 r1 f0 f1;go_wp2
    (try simp only [Exit.inBlock,Exit.then])
    exact bodyPost_ret (jm0 Tryz.results125 rfl ((HTW3.out.set0 _).set1 _)) rfl ⟨by rw [HV'.out],(hb03.setCell (by simp) _).setCell (by simp) _⟩
   ·have h6':(pol == 6)=false:=beq_eq_false_iff_ne.2 h6;have HV':Hid (R=(minL (rules.map (·.2)),maxL (rules.map (·.2)))):=by show _=_;rw [HV.out,if_pos rfl,if_neg h7,if_neg h6]
    go_wp2_with fail
    refine (jv8 rules _ _ H2.out hr1).mono ?_;rintro e w3 ⟨rfl,hb3⟩;have HTW3:=hid (HTW2.out.next hb3);obtain ⟨_,r0',r1',f0',f1'⟩:=HTW2.out.next hb3;have hb03:=bx hb02 hb3;clear r0 r1 f0 f1;go_wp2
    (try simp only [Exit.inBlock,Exit.then])
    exact bodyPost_ret (jm0 Tryz.results125 rfl ((HTW3.out.set0 _).set1 _)) rfl ⟨by rw [HV'.out],(hb03.setCell (by simp) _).setCell (by simp) _⟩
end Go.Proofs.YthmlndmlnlfhnaaGreatDoor
