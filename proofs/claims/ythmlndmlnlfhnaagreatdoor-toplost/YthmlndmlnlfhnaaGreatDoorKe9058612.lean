import Derived.Shelf.Strings.OnBuilder
import Derived.Deep.RegionHeld3
import Derived.Test.YthmlndmlnlfhnaaGreatDoorK13e7b972
import Derived.Test.YthmlndmlnlfhnaaGreatDoorK4f7f3b46
import Derived.Test.YthmlndmlnlfhnaaGreatDoorKeecd1919
set_option maxRecDepth 100000
set_option maxHeartbeats 16000000
namespace Go.Proofs.YthmlndmlnlfhnaaGreatDoor
open Go.Lib (hid)
open Go.RowKit Go.Shelf
theorem jlu (a b:Bs):bs a ++ bs b=bs (a ++ b):=by
 have:(bs a ++ bs b).data.toList=(bs (a ++ b)).data.toList:=by
  rw [ByteArray.data_append,Array.toList_append,jdb,jdb,jdb]
 rw [← ygm (bs a ++ bs b),← ygm (bs (a ++ b)),this]
theorem jmq (sep:Bs) (xs:List ByteArray) (v:Value) (w:World) (h:Sl Enc.str w (Old w) xs v) (hN:xs.length≤140737488355328) (hlen:(Lib.join (xs.map (·.data.toList)) sep).length≤140737488355328) :
  Calls Tryz.prog 49 #[v,.string (bs sep)] w fun e w'=>e = .returned (.string (bs (Lib.join (xs.map (·.data.toList)) sep)))∧Below w.heap.size w w':=by
 have H:=hid h;obtain ⟨A,c,rfl,hc1,hc2,hn,h4⟩:=h;by_cases h0:xs.length=0
 ·obtain rfl:xs = []:=List.length_eq_zero_iff.1 h0;exact (Any.strings_Join_none Tryz.join Tryz.joinX A c (bs sep) w).mono fun e w' ⟨he,hw⟩=>⟨he,hw ▸ Below.refl _ _⟩
 ·obtain ⟨b,o,rfl,hb,_⟩:=h4 (by omega);have:=Any.strings_Join Tryz.join Tryz.joinX b o c xs (bs sep) w (fun j x hx=>?_) hb hN hc1 (by rw [jdb];exact hlen)
  ·rw [jdb] at this;exact this
  have hj:j<xs.length:=(List.getElem?_eq_some_iff.1 hx).1;obtain ⟨b',o',y,e,_,hy,hcell⟩:=H.out.str_at hj;injection e with e;injection e with e1 e2;subst e1 e2;have:y=x:=Option.some.inj (hy.out.symm.trans hx)
  subst this;exact hcell
theorem jsq (a b:Int) (w:World) (hv:VarsOk w) (ha:inB a) (hb:inB b) :
  Calls Tryz.prog 109 #[.int .i64 a,.int .i64 b] w fun e w'=>e = .returned (.string (bs (ji8 a b)))∧Below w.heap.size w w':=by
 have HV:=hid hv;have l1:=jh3 ha;have l2:=jh3 hb;obtain ⟨a1,a2⟩:=ha;obtain ⟨b1,b2⟩:=hb;go_enter Tryz.func109,Tryz.ntmps109
 go_wp2_with fail
 refine (je2 a (by omega) (by omega) _ HV.out).mono ?_;rintro e w1 ⟨rfl,hb1⟩;have HV1:=hid (HV.out.next hb1);have s1:=jeq (Lib.itoa a);have s2:=jeq (Lib.itoa b);go_wp2_with fail
 refine (je2 b (by omega) (by omega) _ HV1.out).mono ?_;rintro e w2 ⟨rfl,hb2⟩;go_wp2;go_ret;refine ⟨?_,bx hb1 hb2⟩
 show Ending.returned (.string (bs (Lib.itoa a) ++ bs [46,46] ++ bs (Lib.itoa b)))=_
 rw [jlu,jlu];rfl
theorem jwb (x y:Int) (w:World) (hv:VarsOk w) (hx:inB x) (hy:inB y) :
  Calls Tryz.prog 184 #[.agg #[.int .i64 x,.int .i64 y]] w fun e w'=>e = .returned (.string (bs (je9 (x,y))))∧Below w.heap.size w w':=by
 have hw0:=jaa w (.cells #[.int .i64 x,.int .i64 y] 87);have HV:=hid (hv.next hw0);have C0:=Cs.new w [.int .i64 x,.int .i64 y] 87;have c0:=C0.at 0 rfl;have c1:=C0.at 1 rfl;clear C0;by_cases h:x<y
 ·have HE:Hid (je9 (x,y)=ji8 x y):=by show _=_;unfold je9;rw [if_pos h]
  go_enter Tryz.func184,Tryz.ntmps184
  go_wp2_with fail
  refine (jsq x y _ HV.out hx hy).mono ?_;rintro e w1 ⟨rfl,hb1⟩;go_wp2;go_ret;exact ⟨by rw [HE.out];rfl,bx hw0 hb1⟩
 ·have HE:Hid (je9 (x,y)=Lib.itoa x):=by show _=_;unfold je9;rw [if_neg h]
  have h':y≤x:=by omega
  obtain ⟨a1,a2⟩:=hx;go_enter Tryz.func184,Tryz.ntmps184
  go_wp2_with fail
  refine (je2 x (by omega) (by omega) _ HV.out).mono ?_;rintro e w1 ⟨rfl,hb1⟩;go_wp2;go_ret;exact ⟨by rw [HE.out];rfl,bx hw0 hb1⟩
theorem mapt {α β:Type} (f:α → β) {l:List α} {k:Nat} {x:α} (h:l[k]? = some x):(l.take (k+1)).map f=(l.take k).map f ++ [f x]:=by
 rw [List.take_add_one,h];simp
def jxm (r:Int × Int):ByteArray:=bs (je9 r)
def ygo (c:CellD):ByteArray:=bs (jih c)
theorem ju4 (l:List (Int × Int)):(l.map jxm).map (·.data.toList)=l.map je9:=by
 rw [List.map_map];exact List.map_congr_left fun r _=>jdb _
theorem jwm (l:List CellD):(l.map ygo).map (·.data.toList)=l.map jih:=by
 rw [List.map_map];exact List.map_congr_left fun r _=>jdb _
theorem jzw (ng:Bool) (rs:List (Int × Int)) (v:Value) (w:World) (hv:VarsOk w) (h:Sl Enc.rng w (Old w) rs v) (hl:rs.length≤4) (hr:∀ r∈rs,jpo r) :
  Calls Tryz.prog 153 #[.agg #[.bool ng,v]] w fun e w'=>e = .returned (.string (bs (jih (ng,rs))))∧Below w.heap.size w w':=by
 obtain ⟨A,c,rfl,hc1,hc2⟩:=h.form;unfold maxLen at hc2;have hw0:=jaa w (.cells #[.bool ng,.slice A rs.length c] 85);have HV:=hid (hv.next hw0);have H:=hid (h.onOld hw0);have C0:=hid (Cs.new w [.bool ng,.slice A rs.length c] 85);have c0:=C0.out.at 0 rfl;have c1:=C0.out.at 1 rfl;clear h;change Hid (Cs (w.alloc (.cells #[.bool ng,.slice A rs.length c] 85)) w.heap.size [.bool ng,.slice A rs.length c]) at C0;have HR:=hid hr;clear hr;by_cases h0:rs.length=0
 ·obtain rfl:rs = []:=List.length_eq_zero_iff.1 h0;go_enter Tryz.func153,Tryz.ntmps153
  go_wp2;go_ret;exact ⟨rfl,hw0⟩
 ·have h0':((rs.length:Int) == 0)=false:=beq_eq_false_iff_ne.2 (by omega);have HE:Hid (jih (ng,rs)=(if ng then [110,111,116,32] else []) ++ Lib.join (rs.map je9) [124]):=by show _=_;unfold jih;rw [if_neg h0]
  go_enter Tryz.func153,Tryz.ntmps153
  go_wp2;generalize w.alloc (.cells #[.bool ng,.slice A rs.length c] 85)=w0 at *;go_loopw [3,14] (fun u i wr=>∃ k:Nat,k≤rs.length∧i = .int .i64 k∧Hid (OwnG Enc.str wr w0.heap.size w0.heap.size 9 u ((rs.take k).map jxm))∧Hid (Below w0.heap.size w0 wr)) (fun _ i _=>rs.length-(intOf i).toNat)
  case atStart=>exact ⟨0,Nat.zero_le _,rfl,OwnG.nil,Below.refl _ _⟩
  case round =>
   obtain ⟨k,hk,rfl,HO,HB⟩:=hrel;have hsz:=HB.out.size;by_cases hlt:k<rs.length
   ·obtain ⟨b,o,x,y,rfl,_,hx,d1,d2⟩:=(H.out.onOld HB.out).rng_at hlt;have HT:=hid (mapt jxm hx.out);have hN:((rs.take k).map jxm).length=k:=by rw [List.length_map,List.length_take];omega
    have HN:=hid hN;obtain ⟨q1,q2,_⟩:=HR.out _ (List.mem_of_getElem? hx.out);simp only at q1 q2;have hw1:=jaa wr (.cells #[.int .i64 x,.int .i64 y] 87);have e0:(wr.alloc (.cells #[.int .i64 x,.int .i64 y] 87)).cell? ⟨wr.heap.size,0,none⟩=some (.int .i64 x):=jab _ _ _ _ _ rfl;have e1:(wr.alloc (.cells #[.int .i64 x,.int .i64 y] 87)).cell? ⟨wr.heap.size,1,none⟩=some (.int .i64 y):=jab _ _ _ _ _ rfl;have O1:=hid (HO.out.next hw1);have B1:=hid (bx HB.out hw1);clear hN;go_wp2_with fail
    refine (jwb x y _ (HV.out.next B1.out) q1 q2).mono ?_;rintro e w2 ⟨rfl,hb2⟩;have O2:=hid ((O1.out.next hb2).alloc (.cells #[.string (bs (je9 (x,y)))] 9));have hz2:w0.heap.size≤(w2.alloc (.cells #[.string (bs (je9 (x,y)))] 9)).heap.size:=Nat.le_trans hsz (Nat.le_trans hw1.size (Nat.le_trans hb2.size (jaa w2 _).size));have B2:=hid (bx (bx B1.out hb2) (jaa w2 (.cells #[.string (bs (je9 (x,y)))] 9)));clear hb2 hw1 e0 e1;go_wp2_with (at_builtin;refine jaf (E:=Enc.str) _ rfl _ _ 39 rfl w0.heap.size w0.heap.size 9 16 (.string ⟨#[]⟩) jhu jlh rfl (by decide) _ _ rfl O2.out ⟨w2.heap.size,0,none⟩ (jxm (x,y)) [.string (bs (je9 (x,y)))] rfl rfl (jhz w2 _ _) (by rw [HN.out];omega) (by rw [HN.out];unfold maxLen;omega) hz2 ?_;intro v' w3 hown' hgrow3 _)
    have hbel:=jag hgrow3 hz2 (fun k hk=>(O2.out.lt k hk).1);exact ⟨⟨k+1,by omega,by go_num,by show OwnG _ _ _ _ _ _ _;rw [HT.out];exact hown',B2.out.trans hbel⟩,by simp [intOf];omega⟩
   ·have e:rs.take k=rs:=List.take_of_length_le (by omega);have HO':=HO.out;rw [e] at HO';obtain ⟨Au,cu,eu,-,-,-⟩:=HO'.form;rw [List.length_map] at eu;subst eu;have HSL:=hid (HO'.slOld (Nat.le_refl _));have hjl:=jok (m:=18) (c:=124) (xs:=rs.map je9) (fun x hx=>by
     obtain ⟨r,hr,rfl⟩:=List.mem_map.1 hx;exact jxo (HR.out r hr))
    rw [List.length_map] at hjl;have hjj:=jmq [124] (rs.map jxm) _ wr HSL.out (by rw [List.length_map];omega) (by rw [ju4];omega);rw [ju4] at hjj;generalize Lib.join (rs.map je9) [124]=J at *;have hJ:=jeq J;clear HO HO';go_wp2_with fail
    refine hjj.mono ?_;rintro e w2 ⟨rfl,hb2⟩;have B2:=hid (bx HB.out hb2);have f0:=(C0.out.next B2.out).at 0 rfl;cases ng
    ·go_wp2;go_ret;refine ⟨?_,bx hw0 B2.out⟩;rw [HE.out];rfl
    ·go_wp2;go_ret;refine ⟨?_,bx hw0 B2.out⟩;rw [HE.out]
     show Ending.returned (.string (bs [110,111,116,32] ++ bs J))=_
     rw [jlu];rfl
theorem ya1 {c:CellD} (h:jcl c=true):c.2.length≤4∧∀ r∈c.2,jpo r:=by
 simp only [jcl,Bool.and_eq_true,decide_eq_true_eq] at h;exact ⟨h.1.2,jmk _ _ h.2⟩
theorem jzx (cs:List CellD) (out:Int) (v:Value) (w:World) (hv:VarsOk w) (h:Sl Enc.cell w (Old w) cs v) (hl:cs.length≤3) (hr:∀ c∈cs,jcl c=true) (ho:inB out) :
  Calls Tryz.prog 111 #[.agg #[v,.int .i64 out]] w fun e w'=>e = .returned (.string (bs (jkq (cs,out))))∧Below w.heap.size w w':=by
 obtain ⟨A,c,rfl,hc1,hc2⟩:=h.form;unfold maxLen at hc2;have hw0:=jaa w (.cells #[.slice A cs.length c,.int .i64 out] 82);have HV:=hid (hv.next hw0);have H:=hid (h.onOld hw0);have C0:=hid (Cs.new w [.slice A cs.length c,.int .i64 out] 82);have c0:=C0.out.at 0 rfl;have c1:=C0.out.at 1 rfl;clear h;change Hid (Cs (w.alloc (.cells #[.slice A cs.length c,.int .i64 out] 82)) w.heap.size [.slice A cs.length c,.int .i64 out]) at C0;have HR:=hid hr;clear hr;have HE:Hid (jkq (cs,out)=Lib.join (cs.map jih) [44] ++ [32,61,62,32] ++ Lib.itoa out):=rfl;have lo:=jh3 ho;obtain ⟨o1,o2⟩:=ho;go_enter Tryz.func111,Tryz.ntmps111
 go_wp2;generalize w.alloc (.cells #[.slice A cs.length c,.int .i64 out] 82)=w0 at *;go_loopw [3,9] (fun u i wr=>∃ k:Nat,k≤cs.length∧i = .int .i64 k∧Hid (OwnG Enc.str wr w0.heap.size w0.heap.size 9 u ((cs.take k).map ygo))∧Hid (Below w0.heap.size w0 wr)) (fun _ i _=>cs.length-(intOf i).toNat)
 case atStart=>exact ⟨0,Nat.zero_le _,rfl,OwnG.nil,Below.refl _ _⟩
 case round =>
  obtain ⟨k,hk,rfl,HO,HB⟩:=hrel;have hsz:=HB.out.size;by_cases hlt:k<cs.length
  ·obtain ⟨b,o,ng,rs,vv,rfl,_,hx,d1,d2,hrs⟩:=(H.out.onOld HB.out).cell_at hlt;obtain ⟨Ar,cr,rfl,hr1,hr2⟩:=hrs.form;have HT:=hid (mapt ygo hx.out);have hN:((cs.take k).map ygo).length=k:=by rw [List.length_map,List.length_take];omega
   have HN:=hid hN;obtain ⟨q1,q2⟩:=ya1 (HR.out _ (List.mem_of_getElem? hx.out));simp only at q1 q2;have Q2:=hid q2;clear q2;have hw1:=jaa wr (.cells #[.bool ng,.slice Ar rs.length cr] 85);have e0:(wr.alloc (.cells #[.bool ng,.slice Ar rs.length cr] 85)).cell? ⟨wr.heap.size,0,none⟩=some (.bool ng):=jab _ _ _ _ _ rfl;have e1:(wr.alloc (.cells #[.bool ng,.slice Ar rs.length cr] 85)).cell? ⟨wr.heap.size,1,none⟩=some (.slice Ar rs.length cr):=jab _ _ _ _ _ rfl;have HS:=hid (hrs.onOld hw1);have O1:=hid (HO.out.next hw1);have B1:=hid (bx HB.out hw1);clear hN hrs;go_wp2_with fail
   refine (jzw ng rs _ _ (HV.out.next B1.out) HS.out q1 Q2.out).mono ?_;rintro e w2 ⟨rfl,hb2⟩;have O2:=hid ((O1.out.next hb2).alloc (.cells #[.string (bs (jih (ng,rs)))] 9));have hz2:w0.heap.size≤(w2.alloc (.cells #[.string (bs (jih (ng,rs)))] 9)).heap.size:=Nat.le_trans hsz (Nat.le_trans hw1.size (Nat.le_trans hb2.size (jaa w2 _).size));have B2:=hid (bx (bx B1.out hb2) (jaa w2 (.cells #[.string (bs (jih (ng,rs)))] 9)));clear hb2 hw1 e0 e1;go_wp2_with (at_builtin;refine jaf (E:=Enc.str) _ rfl _ _ 39 rfl w0.heap.size w0.heap.size 9 16 (.string ⟨#[]⟩) jhu jlh rfl (by decide) _ _ rfl O2.out ⟨w2.heap.size,0,none⟩ (ygo (ng,rs)) [.string (bs (jih (ng,rs)))] rfl rfl (jhz w2 _ _) (by rw [HN.out];omega) (by rw [HN.out];unfold maxLen;omega) hz2 ?_;intro v' w3 hown' hgrow3 _)
   have hbel:=jag hgrow3 hz2 (fun k hk=>(O2.out.lt k hk).1);exact ⟨⟨k+1,by omega,by go_num,by show OwnG _ _ _ _ _ _ _;rw [HT.out];exact hown',B2.out.trans hbel⟩,by simp [intOf];omega⟩
  ·have e:cs.take k=cs:=List.take_of_length_le (by omega);have HO':=HO.out;rw [e] at HO';obtain ⟨Au,cu,eu,-,-,-⟩:=HO'.form;rw [List.length_map] at eu;subst eu;have HSL:=hid (HO'.slOld (Nat.le_refl _));have hjl:=jok (m:=80) (c:=44) (xs:=cs.map jih) (fun x hx=>by
    obtain ⟨r,hr,rfl⟩:=List.mem_map.1 hx;exact yah (HR.out r hr))
   rw [List.length_map] at hjl;have hjj:Hid (∀ W,Below wr.heap.size wr W→Calls Tryz.prog 49 #[.slice Au cs.length cu,.string (bs [44])] W fun e w'=>e = .returned (.string (bs (Lib.join (cs.map jih) [44])))∧Below W.heap.size W w'):=by
    intro W hW;have:=jmq [44] (cs.map ygo) _ W (HSL.out.onOld hW) (by rw [List.length_map];omega) (by rw [jwm];omega)
    rw [jwm] at this;exact this
   have hit:Hid (∀ W,Below wr.heap.size wr W→Calls Tryz.prog 152 #[.int .i64 out] W fun e w'=>e = .returned (.string (bs (Lib.itoa out)))∧Below W.heap.size W w') :=
    fun W hW=>je2 out (by omega) (by omega) W ((HV.out.next HB.out).next hW)
   generalize Lib.join (cs.map jih) [44]=J at *;have hJ:=jeq J;have hI:=jeq (Lib.itoa out);have f1:=(C0.out.next HB.out).at 1 rfl;have hg1:w.heap.size<wr.heap.size:=(C0.out.next HB.out).1;clear HO HO' c0 c1;have f1':wr.drew.cell? ⟨w.heap.size,1,none⟩=some (.int .i64 out):=f1;have a1:∀ W,(Op.stringOp .add (bs J) (⟨#[32,61,62,32]⟩:ByteArray)).run Tryz.prog W = .ok (.string (bs (J ++ [32,61,62,32]))) W:=fun W=>by
    rw [run_string_add_sum W (bs J) ⟨#[32,61,62,32]⟩ (by rw [hJ];show J.length+4≤_;omega)]
    show _=Result.ok (Value.string (bs (J ++ [32,61,62,32]))) W
    rw [← jlu];rfl
   have a2:∀ W,(Op.stringOp .add (bs (J ++ [32,61,62,32])) (bs (Lib.itoa out))).run Tryz.prog W = .ok (.string (bs (jkq (cs,out)))) W:=fun W=>by
    rw [run_string_add_sum W _ _ (by rw [hI,jeq,List.length_append];simp only [List.length_cons,List.length_nil];omega),jlu,HE.out]
   clear hJ hI hjl;generalize hRB:bs (jkq (cs,out))=RB at *;have HRB:=hid hRB;clear hRB;generalize bs (J ++ [32,61,62,32])=J4 at *;generalize bs J=JB at *;generalize bs (Lib.itoa out)=IB at *;go_wp2_with fail
   go_region_held3 (fun w'=>w'.cell? ⟨w.heap.size,1,none⟩=some (.int .i64 out)) (first | exact f1 | exact f1' | exact k1 | exact k2)
    (first
    | (go_at_call 49;refine (hjj.out _ ?_).mono ?_;exact (Below.refl _ _).drew;rintro e w2 ⟨rfl,hb2⟩;have b2:Below wr.heap.size wr w2:=(Below.refl _ _).drew.trans hb2;have k1:=(b2.cell (p:=⟨w.heap.size,1,none⟩) hg1).trans f1;clear hb2)
    | (go_at_call 152;refine (hit.out _ ?_).mono ?_;exact b2;rintro e w3 ⟨rfl,hb3⟩;have b3:Below wr.heap.size wr w3:=bx b2 hb3;have k2:=(b3.cell (p:=⟨w.heap.size,1,none⟩) hg1).trans f1;clear hb3))
   go_wp2;go_ret;exact ⟨by rw [HRB.out];rfl,bx hw0 (bx HB.out b3)⟩
open Go.Lib (hid)
open Go.RowKit Go.Shelf
theorem ycr (l:Bs) (w:World) (h:l.length≤2000) :
  Calls Tryz.prog 112 #[.string (bs l)] w fun e w'=>e = .returned (.tuple #[.string (bs l),.int .i64 0])∧w'=w:=by
 have hsz:(bs l).size=l.length:=jeq l;have h':(l.length:Int)≤2000:=by omega
 go_enter Tryz.func112,Tryz.ntmps112
 go_wp2;go_ret2;exact ⟨rfl,rfl⟩
theorem jsb {a b:ByteArray} {x y:Bs} (ha:a=bs x) (hb:b=bs y) (h:x.length+y.length≤4000) (W:World):(Op.stringOp .add a b).run Tryz.prog W = .ok (.string (bs (x ++ y))) W:=by
 subst ha hb;rw [run_string_add_sum W _ _ (by rw [jeq,jeq];omega),jlu]
theorem ji1 (nm:ByteArray) (lo hi:Int) (w:World) (hv:VarsOk w) (hs:nm.size≤140737488355328) :
  Calls Tryz.prog 65 #[.agg #[.string nm,.int .i64 lo,.int .i64 hi]] w fun e w'=>e = .returned (if jef (nm,lo,hi) then .tuple #[.string (bs (domT (nm,lo,hi))),.int .i64 0] else .tuple #[.string ⟨#[]⟩,.int .i64 1])∧Below w.heap.size w w':=by
 have hw0:=jaa w (.cells #[.string nm,.int .i64 lo,.int .i64 hi] 58);have C0:=hid (Cs.new w [.string nm,.int .i64 lo,.int .i64 hi] 58);change Hid (Cs (w.alloc (.cells #[.string nm,.int .i64 lo,.int .i64 hi] 58)) w.heap.size [.string nm,.int .i64 lo,.int .i64 hi]) at C0;have c0:=C0.out.at 0 rfl;have c1:=C0.out.at 1 rfl;have c2:=C0.out.at 2 rfl;have HV:=hid (hv.next hw0);cases hG:jef (nm,lo,hi)
 ·have HG:=hid hG;clear hG;go_enter Tryz.func65,Tryz.ntmps65
  go_wp2_with fail
  generalize w.alloc (.cells #[.string nm,.int .i64 lo,.int .i64 hi] 58)=w0 at *;refine (jid nm lo hi _ hs).mono ?_;rintro e w1 ⟨rfl,hb1⟩;rw [HG.out];go_wp2;go_ret2;exact ⟨rfl,bx hw0 hb1⟩
 ·have HG:=hid hG;obtain ⟨g1,g2,g3⟩:=jim hG;simp only at g1 g2 g3;obtain ⟨n1,n2,n3⟩:=jdx g1;have l1:=jh3 g2;have l2:=jh3 g3;have hends:(ji8 lo hi).length≤18:=by simp only [ji8,List.length_append,List.length_cons,List.length_nil];omega
  have a1:=jsb (a:=⟨#[100,111,109,97,105,110,32]⟩) (b:=nm) (x:=jbx ++ [32]) (y:=nm.data.toList) rfl (ygm nm).symm (by simp only [jbx,List.length_append,List.length_cons,List.length_nil];omega);have a2:=jsb (a:=bs (jbx ++ [32] ++ nm.data.toList)) (b:=⟨#[32]⟩) (y:=[32]) rfl rfl (by simp only [jbx,List.length_append,List.length_cons,List.length_nil];omega);have a3:=jsb (a:=bs (jbx ++ [32] ++ nm.data.toList ++ [32])) (b:=bs (ji8 lo hi)) rfl rfl (by simp only [jbx,List.length_append,List.length_cons,List.length_nil];omega);have a4:=jsb (a:=bs (jbx ++ [32] ++ nm.data.toList ++ [32] ++ ji8 lo hi)) (b:=⟨#[10]⟩) (y:=[10]) rfl rfl (by simp only [jbx,List.length_append,List.length_cons,List.length_nil];omega);have HE:Hid (bs (jbx ++ [32] ++ nm.data.toList ++ [32] ++ ji8 lo hi ++ [10])=bs (domT (nm,lo,hi))):=rfl;have htw:Hid (∀ W,VarsOk W→Calls Tryz.prog 109 #[.int .i64 lo,.int .i64 hi] W fun e w'=>e = .returned (.string (bs (ji8 lo hi)))∧Below W.heap.size W w'):=fun W hW=>jsq lo hi W hW g2 g3;clear hG g1 n1 n2 n3 l1 l2 hends;generalize bs (jbx ++ [32] ++ nm.data.toList ++ [32] ++ ji8 lo hi ++ [10])=S4 at *;generalize bs (jbx ++ [32] ++ nm.data.toList ++ [32] ++ ji8 lo hi)=S3 at *;generalize bs (jbx ++ [32] ++ nm.data.toList ++ [32])=S2 at *;generalize bs (jbx ++ [32] ++ nm.data.toList)=S1 at *;generalize bs (ji8 lo hi)=EB at *;simp only [if_true];go_enter Tryz.func65,Tryz.ntmps65
  go_wp2_with fail
  generalize w.alloc (.cells #[.string nm,.int .i64 lo,.int .i64 hi] 58)=w0 at *;refine (jid nm lo hi _ hs).mono ?_;rintro e w1 ⟨rfl,hb1⟩;rw [HG.out];have C1:=hid (C0.out.next hb1);have d0:=C1.out.at 0 rfl;have d1:=C1.out.at 1 rfl;have d2:=C1.out.at 2 rfl;have HV1:=hid (HV.out.next hb1);have hgz:=C1.out.1;have B1:=hid (bx hw0 hb1);clear c0 c1 c2 hb1;go_wp2_with fail
  go_region_held3 (fun w'=>w'.cell? ⟨w.heap.size,0,none⟩=some (.string nm)∧w'.cell? ⟨w.heap.size,1,none⟩=some (.int .i64 lo)∧w'.cell? ⟨w.heap.size,2,none⟩=some (.int .i64 hi)) (first | exact ⟨d0,d1,d2⟩ | exact ⟨k0,k1,k2⟩)
   (first
   | (go_at_call 109;refine (htw.out _ ?_).mono ?_;exact HV1.out.next (Below.refl _ _).drew;rintro e w2 ⟨rfl,hb2⟩;have b2:Below w1.heap.size w1 w2:=(Below.refl _ _).drew.trans hb2;have k0:=(b2.cell (p:=⟨w.heap.size,0,none⟩) hgz).trans d0;have k1:=(b2.cell (p:=⟨w.heap.size,1,none⟩) hgz).trans d1;have k2:=(b2.cell (p:=⟨w.heap.size,2,none⟩) hgz).trans d2;clear hb2))
  go_wp2;go_ret2;exact ⟨by rw [← HE.out];rfl,bx B1.out b2⟩
theorem yki {t:TabD} (h:jbd t=true):(juc t).length≤1700:=by
 have a:=jn4 h;have e:∀ (x:Bs) (l:List Bs),Lib.join (x :: l) []=x ++ l.flatten:=by
  intro x l;rw [Lib.join_cons];simp [Lib.joinTail]
 unfold jmd at a;rw [List.cons_append,List.nil_append,List.cons_append,e,List.length_append] at a;omega
theorem yon {t:TabD} (h:jbd t=true):t.ins.length≤3∧(Lib.join (t.ins.map (·.data.toList)) [44]).length≤27:=by
 have hok:=joi h;simp only [jbd,Bool.and_eq_true,decide_eq_true_eq,jfs] at h;have b:=jok (m:=8) (c:=44) (xs:=t.ins.map (·.data.toList)) (fun x hx=>by
  obtain ⟨s,hs,rfl⟩:=List.mem_map.1 hx;exact (jdx (hok.2.2.1.2 s hs)).2.1)
 rw [List.length_map] at b;have hl:t.ins.length≤3:=by omega
 have b2:t.ins.length*9≤3*9:=Nat.mul_le_mul_right _ hl;exact ⟨hl,by omega⟩
theorem ys8 {k:Nat} (h1:1≤k):polL.getD k []=polT (k:Int):=by
 obtain ⟨m,rfl⟩:∃ m,k=m+1:=⟨k-1,by omega⟩
 show _=polW.getD (((m+1:Nat):Int).toNat-1) []
 simp [polL]
theorem yna (t:TabD) (v:Value) (w:World) (hv:VarsOk w) (h:ja9 w (Old w) t v) (hg:jbd t=true) :
  Calls Tryz.prog 110 #[v] w fun e w'=>e = .returned (.string (bs (juc t)))∧Below w.heap.size w w':=by
 have hhl:=yki hg;obtain ⟨hil,hij⟩:=yon hg;obtain ⟨q1,⟨q2,q3⟩,-,-⟩:=joi hg;have HEt:Hid ((([bs jfj,t.name,bs (polT t.pol)] ++ [bs jpj] ++ [bs ([40] ++ Lib.join (t.ins.map (·.data.toList)) [44] ++ [41]),⟨#[123,10]⟩]).map (·.data.toList)) = [jfj,t.name.data.toList,polT t.pol] ++ [[99,111,109,112,108,101,116,101]] ++ [[40] ++ Lib.join (t.ins.map (·.data.toList)) [44] ++ [41],[123,10]]):=by
  show _=_
  simp only [List.map_append,List.map_cons,List.map_nil,jdb]
  try rfl
 have HEf:Hid ((([bs jfj,t.name,bs (polT t.pol)] ++ [bs ([40] ++ Lib.join (t.ins.map (·.data.toList)) [44] ++ [41]),⟨#[123,10]⟩]).map (·.data.toList)) = [jfj,t.name.data.toList,polT t.pol] ++ [[40] ++ Lib.join (t.ins.map (·.data.toList)) [44] ++ [41],[123,10]]):=by
  show _=_
  simp only [List.map_append,List.map_cons,List.map_nil,jdb]
  try rfl
 have HH:Hid (juc t=Lib.join ([jfj,t.name.data.toList,polT t.pol] ++ (if t.comp then [[99,111,109,112,108,101,116,101]] else []) ++ [[40] ++ Lib.join (t.ins.map (·.data.toList)) [44] ++ [41],[123,10]]) [32]):=rfl;obtain ⟨nm,pol,comp,ins,rules⟩:=t;obtain ⟨vi,vr,rfl,hi,hr⟩:=h;simp only at hi hr q1 q2 q3 HEt HEf HH hil hij;obtain ⟨Ai,ci,rfl,hc1,hc2⟩:=hi.form;obtain ⟨Ar,cr,rfl,hd1,hd2⟩:=hr.form;obtain ⟨k,rfl⟩:∃ k:Nat,pol=k:=⟨pol.toNat,by omega⟩;have hw0:=jaa w (.cells #[.string nm,.int .i64 k,.bool comp,.slice Ai ins.length ci,.slice Ar rules.length cr] 56);have C0:=hid (Cs.new w [.string nm,.int .i64 k,.bool comp,.slice Ai ins.length ci,.slice Ar rules.length cr] 56);change Hid (Cs (w.alloc (.cells #[.string nm,.int .i64 k,.bool comp,.slice Ai ins.length ci,.slice Ar rules.length cr] 56)) w.heap.size [.string nm,.int .i64 k,.bool comp,.slice Ai ins.length ci,.slice Ar rules.length cr]) at C0;have HV:=hid (hv.next hw0);have HI:=hid (hi.onOld hw0);have hcell:=yl6 (k:=k) (G:=0) (by kernel_rfl) HV.out (by omega);rw [ys8 (by omega)] at hcell;have a1:=jsb (a:=⟨#[40]⟩) (b:=bs (Lib.join (ins.map (·.data.toList)) [44])) (x:=[40]) rfl rfl (by simp only [List.length_cons,List.length_nil];omega);have a2:=jsb (a:=bs ([40] ++ Lib.join (ins.map (·.data.toList)) [44])) (b:=⟨#[41]⟩) (y:=[41]) rfl rfl (by simp only [List.length_append,List.length_cons,List.length_nil];omega);generalize hSI:bs ([40] ++ Lib.join (ins.map (·.data.toList)) [44] ++ [41])=SI at *;generalize bs ([40] ++ Lib.join (ins.map (·.data.toList)) [44])=SI0 at *;generalize hPT:bs (polT (k:Int))=PT at *;clear hi hr hv;generalize hwe:w.alloc (.cells #[.string nm,.int .i64 k,.bool comp,.slice Ai ins.length ci,.slice Ar rules.length cr] 56)=w0 at *;have c0:w0.drew.cell? ⟨w.heap.size,0,none⟩=some (.string nm):=C0.out.at 0 rfl;have c1:w0.drew.cell? ⟨w.heap.size,1,none⟩=some (.int .i64 k):=C0.out.at 1 rfl;have hcd:w0.drew.cell? ⟨0,k,none⟩=some (.string PT):=hcell;have hk0:(0:Int)≤k:=by omega
 have hk8:(k:Int)<8:=by omega
 have hk8n:k<8:=by omega
 go_enter Tryz.func110,Tryz.ntmps110
 go_wp2_with fail
 clear hwe;go_region
 have O1:Hid (OwnG Enc.str (w0.alloc (.cells #[.string ⟨#[116,97,98,108,101]⟩,.string nm,.string PT] 9)) w0.heap.size w0.heap.size 9 (.slice (some ⟨w0.heap.size,0,none⟩) 3 3) [bs jfj,nm,PT]):=by
  refine OwnG.lit (E:=Enc.str) w0 [bs jfj,nm,PT] #[.string ⟨#[116,97,98,108,101]⟩,.string nm,.string PT] (Nat.le_refl _) (by unfold maxLen;simp) rfl (fun i x hx=>?_)
  match i with
  | 0=>simp at hx;subst hx;exact ⟨[_],rfl,fun j u hu=>by match j with | 0=>exact hu | j+1=>simp at hu⟩
  | 1=>simp at hx;subst hx;exact ⟨[_],rfl,fun j u hu=>by match j with | 0=>exact hu | j+1=>simp at hu⟩
  | 2=>simp at hx;subst hx;exact ⟨[_],rfl,fun j u hu=>by match j with | 0=>exact hu | j+1=>simp at hu⟩
  | i+3=>simp at hx
 have hw1:Below w0.heap.size w0 (w0.alloc (.cells #[.string ⟨#[116,97,98,108,101]⟩,.string nm,.string PT] 9)).drew:=(jaa _ _).drew;have O1':=hid O1.out.drewO;clear O1 c0 c1 hcd hcell;generalize (w0.alloc (.cells #[.string ⟨#[116,97,98,108,101]⟩,.string nm,.string PT] 9)).drew=w1 at *;have f2:=(C0.out.next hw1).at 2 rfl;cases comp
 ·have HE:Hid (Lib.join ((([bs jfj,nm,PT]) ++ [SI,⟨#[123,10]⟩]).map (·.data.toList)) [32]=juc ⟨nm,k,false,ins,rules⟩):=by
   show _=_
   rw [HEf.out,HH.out];rfl
  clear HEt HEf HH;have Oq:=O1';have Bq:=hid hw1;have HI1:=hid (HI.out.onOld Bq.out);have f3:=(C0.out.next Bq.out).at 3 rfl;have hj:=jmq [44] ins _ w1 HI1.out (by omega) (by omega);go_wp2_with fail
  refine hj.mono ?_;rintro e w5 ⟨rfl,hb5⟩;have O5:=hid ((Oq.out.next hb5).alloc (.cells #[.string SI,.string ⟨#[123,10]⟩] 9));have B5:=hid (bx (bx Bq.out hb5) (jaa w5 (.cells #[.string SI,.string ⟨#[123,10]⟩] 9)));have M5:Hid (Sl Enc.str (w5.alloc (.cells #[.string SI,.string ⟨#[123,10]⟩] 9)) (Old (w5.alloc (.cells #[.string SI,.string ⟨#[123,10]⟩] 9))) [SI,⟨#[123,10]⟩] (.slice (some ⟨w5.heap.size,0,none⟩) 2 2)):=(OwnG.lit (E:=Enc.str) w5 (base:=w5.heap.size) (lo:=w5.heap.size) (e:=9) [SI,⟨#[123,10]⟩] #[.string SI,.string ⟨#[123,10]⟩] (Nat.le_refl _) (by unfold maxLen;simp) rfl (fun i x hx=>by
   match i with
   | 0=>simp at hx;subst hx;exact ⟨[_],rfl,fun j u hu=>by match j with | 0=>exact hu | j+1=>simp at hu⟩
   | 1=>simp at hx;subst hx;exact ⟨[_],rfl,fun j u hu=>by match j with | 0=>exact hu | j+1=>simp at hu⟩
   | i+2=>simp at hx)).slOld (Nat.le_refl _)
  have hz5:w0.heap.size≤(w5.alloc (.cells #[.string SI,.string ⟨#[123,10]⟩] 9)).heap.size:=B5.out.size;clear hb5 f3 hj;go_wp2_with (at_builtin;refine jb6 (E:=Enc.str) _ rfl _ _ 39 rfl w0.heap.size w0.heap.size 9 16 (.string ⟨#[]⟩) jhu jlh rfl (by decide) _ _ rfl O5.out _ [SI,⟨#[123,10]⟩] rfl _ M5.out (fun _ _ h=>h) (by show (5)*16≤140737488355328;omega) (by show 5≤maxLen;unfold maxLen;omega) hz5 ?_;intro v6 w6 hown6 hgrow6 _)
  have hbel6:=jag hgrow6 hz5 (fun k hk=>(O5.out.lt k hk).1);have B6:=hid (B5.out.trans hbel6);obtain ⟨A6,c6,e6,-,-,-⟩:=hown6.form;replace e6:v6 = .slice A6 (5) c6:=e6;subst e6;have hj6:=jmq [32] ([bs jfj,nm,PT] ++ [SI,⟨#[123,10]⟩]) _ w6 (hown6.slOld (Nat.le_refl _)) (by show 5≤_;omega) (by rw [HE.out];omega);rw [HE.out] at hj6;clear hown6 hgrow6 hbel6;go_wp2_with fail
  refine hj6.mono ?_;rintro e w7 ⟨rfl,hb7⟩;go_wp2;go_ret;exact ⟨rfl,bx hw0 (bx B6.out hb7)⟩
 ·have HE:Hid (Lib.join ((([bs jfj,nm,PT] ++ [bs jpj]) ++ [SI,⟨#[123,10]⟩]).map (·.data.toList)) [32]=juc ⟨nm,k,true,ins,rules⟩):=by
   show _=_
   rw [HEt.out,HH.out];rfl
  clear HEt HEf HH;have O2:=hid (O1'.out.alloc (.cells #[.string ⟨#[99,111,109,112,108,101,116,101]⟩] 9));have B2:=hid (bx hw1 (jaa w1 (.cells #[.string ⟨#[99,111,109,112,108,101,116,101]⟩] 9)));have hz2:w0.heap.size≤(w1.alloc (.cells #[.string ⟨#[99,111,109,112,108,101,116,101]⟩] 9)).heap.size:=B2.out.size;go_wp2_with (at_builtin;refine jaf (E:=Enc.str) _ rfl _ _ 39 rfl w0.heap.size w0.heap.size 9 16 (.string ⟨#[]⟩) jhu jlh rfl (by decide) _ _ rfl O2.out ⟨w1.heap.size,0,none⟩ (bs jpj) [.string ⟨#[99,111,109,112,108,101,116,101]⟩] rfl rfl (jhz w1 _ _) (by show 4*16≤140737488355328;omega) (by show 4≤maxLen;unfold maxLen;omega) hz2 ?_;intro v3 w3 hown3 hgrow3 _;have hbel3:=jag hgrow3 hz2 (fun k hk=>(O2.out.lt k hk).1);obtain ⟨A3,c3,e3,-,-,-⟩:=hown3.form;replace e3:v3 = .slice A3 4 c3:=e3;subst e3;have Oq:=hid hown3;have Bq:=hid (B2.out.trans hbel3);have f3:=(C0.out.next Bq.out).at 3 rfl)
  clear hown3 hgrow3 hbel3 f2;have HI1:=hid (HI.out.onOld Bq.out);have f3:=(C0.out.next Bq.out).at 3 rfl;have hj:=jmq [44] ins _ w3 HI1.out (by omega) (by omega);go_wp2_with fail
  refine hj.mono ?_;rintro e w5 ⟨rfl,hb5⟩;have O5:=hid ((Oq.out.next hb5).alloc (.cells #[.string SI,.string ⟨#[123,10]⟩] 9));have B5:=hid (bx (bx Bq.out hb5) (jaa w5 (.cells #[.string SI,.string ⟨#[123,10]⟩] 9)));have M5:Hid (Sl Enc.str (w5.alloc (.cells #[.string SI,.string ⟨#[123,10]⟩] 9)) (Old (w5.alloc (.cells #[.string SI,.string ⟨#[123,10]⟩] 9))) [SI,⟨#[123,10]⟩] (.slice (some ⟨w5.heap.size,0,none⟩) 2 2)):=(OwnG.lit (E:=Enc.str) w5 (base:=w5.heap.size) (lo:=w5.heap.size) (e:=9) [SI,⟨#[123,10]⟩] #[.string SI,.string ⟨#[123,10]⟩] (Nat.le_refl _) (by unfold maxLen;simp) rfl (fun i x hx=>by
   match i with
   | 0=>simp at hx;subst hx;exact ⟨[_],rfl,fun j u hu=>by match j with | 0=>exact hu | j+1=>simp at hu⟩
   | 1=>simp at hx;subst hx;exact ⟨[_],rfl,fun j u hu=>by match j with | 0=>exact hu | j+1=>simp at hu⟩
   | i+2=>simp at hx)).slOld (Nat.le_refl _)
  have hz5:w0.heap.size≤(w5.alloc (.cells #[.string SI,.string ⟨#[123,10]⟩] 9)).heap.size:=B5.out.size;clear hb5 f3 hj;go_wp2_with (at_builtin;refine jb6 (E:=Enc.str) _ rfl _ _ 39 rfl w0.heap.size w0.heap.size 9 16 (.string ⟨#[]⟩) jhu jlh rfl (by decide) _ _ rfl O5.out _ [SI,⟨#[123,10]⟩] rfl _ M5.out (fun _ _ h=>h) (by show (6)*16≤140737488355328;omega) (by show 6≤maxLen;unfold maxLen;omega) hz5 ?_;intro v6 w6 hown6 hgrow6 _)
  have hbel6:=jag hgrow6 hz5 (fun k hk=>(O5.out.lt k hk).1);have B6:=hid (B5.out.trans hbel6);obtain ⟨A6,c6,e6,-,-,-⟩:=hown6.form;replace e6:v6 = .slice A6 (6) c6:=e6;subst e6;have hj6:=jmq [32] (([bs jfj,nm,PT] ++ [bs jpj]) ++ [SI,⟨#[123,10]⟩]) _ w6 (hown6.slOld (Nat.le_refl _)) (by show 6≤_;omega) (by rw [HE.out];omega);rw [HE.out] at hj6;clear hown6 hgrow6 hbel6;go_wp2_with fail
  refine hj6.mono ?_;rintro e w7 ⟨rfl,hb7⟩;go_wp2;go_ret;exact ⟨rfl,bx hw0 (bx B6.out hb7)⟩
def ybl (r:RuleD):ByteArray:=bs (jpm r)
theorem jml {t:TabD} (h:jbd t=true):t.rules.length≤6∧∀ r∈t.rules,r.1.length≤3∧(∀ c∈r.1,jcl c=true)∧inB r.2∧(jkq r).length≤255:=by
 have h':=h;simp only [jbd,Bool.and_eq_true,decide_eq_true_eq,jfs,jgv,List.all_eq_true] at h;obtain ⟨⟨⟨⟨h1,h2⟩,h3⟩,⟨h4,h5⟩,h6⟩,⟨h7,h8⟩,h9⟩:=h;refine ⟨h8,fun r hr=>?_⟩;have hr':=h9 r hr;have hl:=ybm (n:=t.ins.length) (by omega) hr';simp only [jfb,Bool.and_eq_true,decide_eq_true_eq,List.all_eq_true] at hr';obtain ⟨⟨⟨q1,q2⟩,q3⟩,q4⟩:=hr';refine ⟨by omega,q4,⟨q1,q2⟩,?_⟩;simp only [jpm,List.length_append,List.length_cons,List.length_nil] at hl;omega
theorem yip (t:TabD):Lib.join ((([bs (juc t)] ++ t.rules.map ybl) ++ [(⟨#[125,10]⟩:ByteArray)]).map (·.data.toList)) []=jmd t:=by
 have e:((([bs (juc t)] ++ t.rules.map ybl) ++ [(⟨#[125,10]⟩:ByteArray)]).map (·.data.toList)) = [juc t] ++ (t.rules.map fun r=>[32,32] ++ jkq r ++ [59,10]) ++ [[125,10]]:=by
  simp only [List.map_append,List.map_cons,List.map_nil,jdb,List.map_map]
  congr 2
 rw [e];rfl
theorem jr7 (t:TabD) (v:Value) (w:World) (hv:VarsOk w) (h:ja9 w (Old w) t v) (hs:jdm t) :
  Calls Tryz.prog 66 #[v] w fun e w'=>e = .returned (if jbd t then .tuple #[.string (bs (jmd t)),.int .i64 0] else .tuple #[.string ⟨#[]⟩,.int .i64 1])∧Below w.heap.size w w':=by
 have H0:=hid h;have HS:=hid hs;have HJ:=hid (yip t);have hG0:jbd t=true→Hid ((t.rules.length≤6∧∀ r∈t.rules,r.1.length≤3∧(∀ c∈r.1,jcl c=true)∧inB r.2∧(jkq r).length≤255)∧(jmd t).length≤1700):=fun hg=>⟨jml hg,jn4 hg⟩;obtain ⟨nm,pol,comp,ins,rules⟩:=t;obtain ⟨vi,vr,rfl,hi,hr⟩:=h;simp only at hi hr HJ;obtain ⟨Ai,ci,rfl,hc1,hc2⟩:=hi.form;obtain ⟨Ar,cr,rfl,hd1,hd2⟩:=hr.form;unfold maxLen at hd2;have hw0:=jaa w (.cells #[.string nm,.int .i64 pol,.bool comp,.slice Ai ins.length ci,.slice Ar rules.length cr] 56);have C0:=hid (Cs.new w [.string nm,.int .i64 pol,.bool comp,.slice Ai ins.length ci,.slice Ar rules.length cr] 56);change Hid (Cs (w.alloc (.cells #[.string nm,.int .i64 pol,.bool comp,.slice Ai ins.length ci,.slice Ar rules.length cr] 56)) w.heap.size [.string nm,.int .i64 pol,.bool comp,.slice Ai ins.length ci,.slice Ar rules.length cr]) at C0;have HV:=hid (hv.next hw0);have H1:=hid (H0.out.onOld hw0);have HR:=hid (hr.onOld hw0);have c0:=C0.out.at 0 rfl;have c1:=C0.out.at 1 rfl;have c2:=C0.out.at 2 rfl;have c3:=C0.out.at 3 rfl;have c4:=C0.out.at 4 rfl;clear hi hr hs hv H0;cases hG:jbd ⟨nm,pol,comp,ins,rules⟩
 ·have HG:=hid hG;clear hG hG0;go_enter Tryz.func66,Tryz.ntmps66
  go_wp2_with fail
  generalize w.alloc (.cells #[.string nm,.int .i64 pol,.bool comp,.slice Ai ins.length ci,.slice Ar rules.length cr] 56)=w0 at *;refine (jeb _ _ _ H1.out HS.out).mono ?_;rintro e w1 ⟨rfl,hb1⟩;rw [HG.out];go_wp2;go_ret2;exact ⟨rfl,bx hw0 hb1⟩
 ·have HG:=hid hG;obtain ⟨⟨hrl,hrr⟩,hlen⟩:=(hG0 hG).out;simp only at hrl hrr;have HRR:=hid hrr;clear hG hG0 hrr;simp only [if_true];go_enter Tryz.func66,Tryz.ntmps66
  go_wp2_with fail
  generalize w.alloc (.cells #[.string nm,.int .i64 pol,.bool comp,.slice Ai ins.length ci,.slice Ar rules.length cr] 56)=w0 at *;refine (jeb _ _ _ H1.out HS.out).mono ?_;rintro e w1 ⟨rfl,hb1⟩;rw [HG.out];have C1:=hid (C0.out.next hb1);have HV1:=hid (HV.out.next hb1);have T1:=hid (H1.out.onOld hb1);have HR1:=hid (HR.out.onOld hb1);have d0:=C1.out.at 0 rfl;have d1:=C1.out.at 1 rfl;have d2:=C1.out.at 2 rfl;have d3:=C1.out.at 3 rfl;have d4:=C1.out.at 4 rfl;have B1:=hid (bx hw0 hb1);clear c0 c1 c2 c3 c4 hb1 hw0;go_wp2_with fail
  refine (yna _ _ _ HV1.out T1.out HG.out).mono ?_;rintro e w2 ⟨rfl,hb2⟩;have C2:=hid (C1.out.next hb2);have HV2:=hid (HV1.out.next hb2);have HR2:=hid (HR1.out.onOld hb2);have B2:=hid (bx B1.out hb2);generalize bs (juc ⟨nm,pol,comp,ins,rules⟩)=HD at *;have hw3:=jaa w2 (.cells #[.string HD] 9);have O3:Hid (OwnG Enc.str (w2.alloc (.cells #[.string HD] 9)) w2.heap.size w2.heap.size 9 (.slice (some ⟨w2.heap.size,0,none⟩) 1 1) [HD]):=OwnG.lit (E:=Enc.str) w2 [HD] #[.string HD] (Nat.le_refl _) (by unfold maxLen;simp) rfl (jb9.one rfl);have f4:=(C2.out.next hw3).at 4 rfl;clear d0 d1 d2 d3 d4 hb2;go_wp2;generalize w2.alloc (.cells #[.string HD] 9)=w3 at *;go_loopw [4,16] (fun u i wr=>∃ k:Nat,k≤rules.length∧i = .int .i64 k∧Hid (OwnG Enc.str wr w2.heap.size w2.heap.size 9 u ([HD] ++ (rules.take k).map ybl))∧Hid (Below w2.heap.size w2 wr)) (fun _ i _=>rules.length-(intOf i).toNat)
  case atStart=>exact ⟨0,Nat.zero_le _,rfl,O3,hw3⟩
  case round =>
   obtain ⟨k,hk,rfl,HO,HB⟩:=hrel;have hsz:=HB.out.size;by_cases hlt:k<rules.length
   ·obtain ⟨b,o,cs,x,vv,rfl,_,hx,e1,e2,hcs⟩:=(HR2.out.onOld HB.out).rule_at hlt;obtain ⟨Ac,cc,rfl,hr1,hr2⟩:=hcs.form;have HT:=hid (mapt ybl hx.out);have hN:([HD] ++ (rules.take k).map ybl).length=k+1:=by simp only [List.length_append,List.length_map,List.length_take,List.length_cons,List.length_nil];omega
    have HN:=hid hN;obtain ⟨q1,q2,q3,q4⟩:=HRR.out _ (List.mem_of_getElem? hx.out);simp only at q1 q2 q3;have Q2:=hid q2;have Q3:=hid q3;have a1:=jsb (a:=⟨#[32,32]⟩) (b:=bs (jkq (cs,x))) (x:=[32,32]) rfl rfl (by simp only [List.length_cons,List.length_nil];omega);have a2:=jsb (a:=bs ([32,32] ++ jkq (cs,x))) (b:=⟨#[59,10]⟩) (y:=[59,10]) rfl rfl (by simp only [List.length_append,List.length_cons,List.length_nil];omega);have HLB:Hid (bs ([32,32] ++ jkq (cs,x) ++ [59,10])=ybl (cs,x)):=rfl;clear q2 q3 q4 hN;have hw4:=jaa wr (.cells #[.slice Ac cs.length cc,.int .i64 x] 82);have g0:(wr.alloc (.cells #[.slice Ac cs.length cc,.int .i64 x] 82)).cell? ⟨wr.heap.size,0,none⟩=some (.slice Ac cs.length cc):=jab _ _ _ _ _ rfl;have g1:(wr.alloc (.cells #[.slice Ac cs.length cc,.int .i64 x] 82)).cell? ⟨wr.heap.size,1,none⟩=some (.int .i64 x):=jab _ _ _ _ _ rfl;have HC:=hid (hcs.onOld hw4);have O4:=hid (HO.out.next hw4);have B4:=hid (bx HB.out hw4);clear hcs;go_wp2_with fail
    refine (jzx cs x _ _ (HV2.out.next B4.out) HC.out q1 Q2.out Q3.out).mono ?_;rintro e w5 ⟨rfl,hb5⟩;generalize bs ([32,32] ++ jkq (cs,x) ++ [59,10])=LB at *;generalize bs ([32,32] ++ jkq (cs,x))=LA at *;generalize bs (jkq (cs,x))=LR at *;have O5:=hid ((O4.out.next hb5).alloc (.cells #[.string LB] 9));have hz5:w2.heap.size≤(w5.alloc (.cells #[.string LB] 9)).heap.size:=Nat.le_trans hsz (Nat.le_trans hw4.size (Nat.le_trans hb5.size (jaa w5 _).size));have B5:=hid (bx (bx B4.out hb5) (jaa w5 (.cells #[.string LB] 9)));clear hb5 hw4 g0 g1;go_wp2_with (at_builtin;refine jaf (E:=Enc.str) _ rfl _ _ 39 rfl w2.heap.size w2.heap.size 9 16 (.string ⟨#[]⟩) jhu jlh rfl (by decide) _ _ rfl O5.out ⟨w5.heap.size,0,none⟩ LB [.string LB] rfl rfl (jhz w5 _ _) (by rw [HN.out];omega) (by rw [HN.out];unfold maxLen;omega) hz5 ?_;intro v' w6 hown' hgrow6 _)
    have hbel:=jag hgrow6 hz5 (fun k hk=>(O5.out.lt k hk).1);refine ⟨⟨k+1,by omega,by go_num,?_,B5.out.trans hbel⟩,by simp [intOf];omega⟩
    show OwnG _ _ _ _ _ _ _
    rw [HT.out,← HLB.out,← List.append_assoc];exact hown'
   ·have e:rules.take k=rules:=List.take_of_length_le (by omega);have HO':=HO.out;rw [e] at HO';obtain ⟨Au,cu,eu,-,-,-⟩:=HO'.form;have hN:([HD] ++ rules.map ybl).length=rules.length+1:=by simp only [List.length_append,List.length_map,List.length_cons,List.length_nil];omega
    have HN:=hid hN;rw [hN] at eu;subst eu;have O7:=hid (HO'.alloc (.cells #[.string ⟨#[125,10]⟩] 9));have B7:=hid (bx HB.out (jaa wr (.cells #[.string ⟨#[125,10]⟩] 9)));have hz7:w2.heap.size≤(wr.alloc (.cells #[.string ⟨#[125,10]⟩] 9)).heap.size:=B7.out.size;clear HO HO' hN;go_wp2_with (at_builtin;refine jaf (E:=Enc.str) _ rfl _ _ 39 rfl w2.heap.size w2.heap.size 9 16 (.string ⟨#[]⟩) jhu jlh rfl (by decide) _ _ rfl O7.out ⟨wr.heap.size,0,none⟩ ⟨#[125,10]⟩ [.string ⟨#[125,10]⟩] rfl rfl (jhz wr _ _) (by rw [HN.out];omega) (by rw [HN.out];unfold maxLen;omega) hz7 ?_;intro v8 w8 hown8 hgrow8 _)
    have hbel:=jag hgrow8 hz7 (fun k hk=>(O7.out.lt k hk).1);have B8:=hid (B7.out.trans hbel);obtain ⟨A8,c8,e8,-,-,-⟩:=hown8.form;rw [List.length_append,HN.out] at e8;replace e8:v8 = .slice A8 (rules.length+1+1) c8:=e8;subst e8;have hj:=jmq [] (([HD] ++ rules.map ybl) ++ [⟨#[125,10]⟩]) _ w8 (hown8.slOld (Nat.le_refl _)) (by rw [List.length_append,HN.out];show rules.length+1+1≤_;omega) (by rw [HJ.out];omega);rw [HJ.out] at hj;clear hown8 hgrow8 hbel;go_wp2_with fail
    refine hj.mono ?_;rintro e w9 ⟨rfl,hb9⟩;go_wp2_with fail
    refine (ycr _ _ (by omega)).mono ?_;rintro e w10 ⟨rfl,rfl⟩;go_wp2;go_ret2;exact ⟨rfl,bx B2.out (bx B8.out hb9)⟩
open Go.Lib (hid)
open Go.RowKit Go.Shelf
theorem jne (b:BookD) (s:ByteArray) (v:Value) (w:World) (h:jar w (Old w) b v) (hs:jgd b) (hv:VarsOk w) :
  Calls Tryz.prog 30 #[v,.string s] w fun e w'=>e = .returned (.string (bs (jb2 b s)))∧Below w.heap.size w w':=by
 have HS:=hid (jik hs s);have HSD:Hid (∀ d,jdj b.doms s=some d→d.1.size≤140737488355328):=fun d hd=>hs.1 d (jgn hd).1;have HB:=hid h;have HV:=hid hv;have HE:Hid (jb2 b s=match jdj b.doms s with | some d=>if jef d then domT d else [] | none=>match jb3 b.tabs s with | some t=>if jbd t then jmd t else [] | none=>[]):=rfl;generalize jb2 b s=R at *;obtain ⟨vd,vt,rfl,h1,h2⟩:=h;obtain ⟨A,c,rfl,hc1,hc2,-⟩:=h1;obtain ⟨B,d,rfl,hd1,hd2,-⟩:=h2;clear hs hv;have hb0:=jac w (.cells #[.slice A b.doms.length c,.slice B b.tabs.length d] 38);have C0:=hid (Cs.new w [.slice A b.doms.length c,.slice B b.tabs.length d] 38);change Hid (Cs (w.alloc (.cells #[.slice A b.doms.length c,.slice B b.tabs.length d] 38)) _ _) at C0;generalize hw0:w.alloc (.cells #[.slice A b.doms.length c,.slice B b.tabs.length d] 38)=w0 at *;have k0:=C0.out.at 0 rfl;have k1:=C0.out.at 1 rfl;have HB1:=hid (HB.out.onOld hb0);go_enter Tryz.func30,Tryz.ntmps30
 go_wp2_with fail
 clear hw0 k0 k1;refine (jhw b s _ _ HB1.out).mono ?_;rintro e w2 ⟨rfl,hb2⟩;have C02:=hid (C0.out.next hb2);have hb02:=bx hb0 hb2;have HB2:=hid (HB1.out.onOld hb2);cases hf:jdj b.doms s with
 | some dd =>
  have hsz:=HSD.out dd hf;obtain ⟨nm,lo,hi⟩:=dd;have HR:Hid (R=if jef (nm,lo,hi) then domT (nm,lo,hi) else []):=by show _=_;rw [HE.out,hf]
  clear hf HE HSD;simp only [Option.getD_some,Option.isSome_some,domV];have hbz:=jac w2 (.cells #[.string nm,.int .i64 lo,.int .i64 hi] 58);have hbl2:=bx hb02 hbz;have CN:=hid (Cs.new w2 [.string nm,.int .i64 lo,.int .i64 hi] 58);change Hid (Cs (w2.alloc (.cells #[.string nm,.int .i64 lo,.int .i64 hi] 58)) _ _) at CN;have q0:=CN.out.at 0 rfl;have q1:=CN.out.at 1 rfl;have q2:=CN.out.at 2 rfl;have HVz:=hid (HV.out.next hbl2);generalize hwa:w2.alloc (.cells #[.string nm,.int .i64 lo,.int .i64 hi] 58)=wa at *;go_wp2_with fail
  clear hwa;refine (ji1 nm lo hi _ HVz.out hsz).mono ?_;cases hg:jef (nm,lo,hi)
  ·have HR':Hid (R = []):=by show _=_;rw [HR.out,hg];rfl
   clear hg HR;simp only [Bool.false_eq_true,if_false];rintro e w3 ⟨rfl,hb3⟩;go_wp2;go_ret;rw [HR'.out];exact ⟨rfl,bx hbl2 hb3⟩
  ·have HR':Hid (R=domT (nm,lo,hi)):=by show _=_;rw [HR.out,hg];rfl
   clear hg HR;simp only [if_true];rintro e w3 ⟨rfl,hb3⟩;go_wp2;go_ret;rw [HR'.out];exact ⟨rfl,bx hbl2 hb3⟩
 | none =>
  have HE2:Hid (R=match jb3 b.tabs s with | some t=>if jbd t then jmd t else [] | none=>[]):=by show _=_;rw [HE.out,hf]
  clear hf HE HSD;simp only [Option.getD_none,Option.isSome_none,domV,jnc];have hbz:=jac w2 (.cells #[.string ⟨#[]⟩,.int .i64 0,.int .i64 0] 58);have hb03:=bx hb02 hbz;have C03:=hid (C02.out.next hbz);have HB3:=hid (HB2.out.onOld hbz);have k0:=C03.out.at 0 rfl;have k1:=C03.out.at 1 rfl;go_wp2_with fail
  generalize hwa:w2.alloc (.cells #[.string ⟨#[]⟩,.int .i64 0,.int .i64 0] 58)=wa at *;clear hwa k0 k1 C02;refine (ji3 b s _ _ HB3.out).mono ?_;rintro e w3 ⟨vt3,rfl,ht3,hb3⟩;have hb04:=bx hb03 hb3;have HT:=hid ht3;obtain ⟨vi,vr,rfl,hi3,hr3⟩:=ht3;obtain ⟨Ai,ci,rfl,-,-⟩:=hi3.form;obtain ⟨Ar,cr,rfl,-,-⟩:=hr3.form;clear hi3 hr3;generalize hnt:(jb3 b.tabs s).getD je1=nt at *;have hbz2:=jac w3 (.cells #[.string nt.name,.int .i64 nt.pol,.bool nt.comp,.slice Ai nt.ins.length ci,.slice Ar nt.rules.length cr] 56);have CN:=hid (Cs.new w3 [.string nt.name,.int .i64 nt.pol,.bool nt.comp,.slice Ai nt.ins.length ci,.slice Ar nt.rules.length cr] 56);change Hid (Cs (w3.alloc (.cells #[.string nt.name,.int .i64 nt.pol,.bool nt.comp,.slice Ai nt.ins.length ci,.slice Ar nt.rules.length cr] 56)) _ _) at CN;have hb05:=bx hb04 hbz2;have HT5:=hid (HT.out.onOld hbz2);have HV5:=hid (HV.out.next hb05);have q0:=CN.out.at 0 rfl;have q1:=CN.out.at 1 rfl;have q2:=CN.out.at 2 rfl;have q3:=CN.out.at 3 rfl;have q4:=CN.out.at 4 rfl;generalize hwb:w3.alloc (.cells #[.string nt.name,.int .i64 nt.pol,.bool nt.comp,.slice Ai nt.ins.length ci,.slice Ar nt.rules.length cr] 56)=wb at *;cases hf:jb3 b.tabs s with
  | some t =>
   have hte:nt=t:=by rw [← hnt,hf];rfl
   subst hte;have HR:Hid (R=if jbd nt then jmd nt else []):=by show _=_;rw [HE2.out,hf]
   clear hf HE2 hnt;simp only [Option.isSome_some];go_wp2_with fail
   clear hwb;refine (jr7 nt _ _ HV5.out HT5.out HS.out).mono ?_;cases hg:jbd nt
   ·have HR':Hid (R = []):=by show _=_;rw [HR.out,hg];rfl
    clear hg HR;simp only [Bool.false_eq_true,if_false];rintro e w6 ⟨rfl,hb6⟩;go_wp2;go_ret;rw [HR'.out];exact ⟨rfl,bx hb05 hb6⟩
   ·have HR':Hid (R=jmd nt):=by show _=_;rw [HR.out,hg];rfl
    clear hg HR;simp only [if_true];rintro e w6 ⟨rfl,hb6⟩;go_wp2;go_ret;rw [HR'.out];exact ⟨rfl,bx hb05 hb6⟩
  | none =>
   have HR:Hid (R = []):=by show _=_;rw [HE2.out,hf]
   clear hf HE2 hnt;simp only [Option.isSome_none];go_wp2;go_ret;rw [HR.out];exact ⟨rfl,hb05⟩
def jkb (l:List ByteArray):List Value:=l.map Value.string
theorem jye (l:List ByteArray):(jkb l).length=l.length:=by simp [jkb]
theorem jxc (l:List ByteArray):∀ u∈jkb l,u.oneCell'=true:=by
 intro u hu;obtain ⟨x,_,rfl⟩:=List.mem_map.1 hu;rfl
def OwnT (w:World) (base:Nat) (v:Value) (l:List ByteArray):Prop:=w.ownsRow base 9 1 v l.length (jkb l)
theorem OwnT.nil {w:World} {base:Nat}:OwnT w base (.slice none 0 0) []:=World.ownsRow_nil w base _ 1
theorem OwnT.lt {w:World} {base:Nat} {v:Value} {l:List ByteArray} (h:OwnT w base v l):∀ k,v.ownBlock=some k→base≤k∧k<w.heap.size:=World.ownsRow.lt h
theorem OwnT.keep {w w':World} {base:Nat} {v:Value} {l:List ByteArray} (h:OwnT w base v l) (hk:∀ g,v.ownBlock=some g→w'.heap[g]? = w.heap[g]?):OwnT w' base v l:=ja1 h hk
theorem ym4 (w:World) (S:Nat→Prop) (l:List ByteArray):jb9 Enc.str w S l (jkb l):=by
 intro i x hx;refine ⟨[.string x],rfl,fun j u hu=>?_⟩
 match j with
 | 0=>simp at hu;subst hu;rw [show Enc.str.size=1 from rfl,Nat.mul_one,Nat.add_zero,jkb,List.getElem?_map,hx];rfl
 | j+1=>simp at hu
theorem OwnT.s {w:World} {base:Nat} {v:Value} {l:List ByteArray} (h:OwnT w base v l) (S:Nat→Prop):OwnS Enc.str w base S 9 v l:=⟨_,h,ym4 w S l⟩
theorem OwnT.sl {w:World} {base:Nat} {v:Value} {l:List ByteArray} {S:Nat→Prop} (h:OwnT w base v l) (hv:∀ k,v.ownBlock=some k→S k):Sl Enc.str w S l v:=(h.s S).sl hv fun _ h=>h
theorem ysn {l:List ByteArray} (hr:jo2 l=true) (s:ByteArray):Lib.bsGo (fun t=>Op.bytesLess (l.getD t noS).toList s.toList) l.length 0 l.length=posF (fun s=>s) l s:=by
 have hp:=jpr (f:=fun s:ByteArray=>s) l s;have h1:∀ t,t<posF (fun s=>s) l s→Op.bytesLess (l.getD t noS).toList s.toList=true:=fun t ht=>by
  have hx:l[t]? = some l[t]:=List.getElem?_eq_getElem (by omega);rw [List.getD_eq_getElem?_getD,hx];exact yb7 (f:=fun s:ByteArray=>s) ht hx
 have h2:∀ t,posF (fun s=>s) l s≤t→t<l.length→Op.bytesLess (l.getD t noS).toList s.toList=false:=fun t ht hl=>by
  have hx:l[t]? = some l[t]:=List.getElem?_eq_getElem hl;rw [List.getD_eq_getElem?_getD,hx];exact jxi (f:=fun s:ByteArray=>s) hr ht hx
 have key:∀ (f lo hi:Nat),hi-lo≤f→lo≤posF (fun s=>s) l s→posF (fun s=>s) l s≤hi→hi≤l.length→Lib.bsGo (fun t=>Op.bytesLess (l.getD t noS).toList s.toList) f lo hi=posF (fun s=>s) l s:=by
  intro f;induction f with
  | zero=>intro lo hi a b c d;simp [Lib.bsGo];omega
  | succ f ih =>
   intro lo hi a b c d;unfold Lib.bsGo;by_cases h:lo<hi
   ·rw [if_pos h];by_cases hm:(lo+hi) / 2<posF (fun s=>s) l s
    ·rw [h1 _ hm,if_pos rfl];exact ih _ _ (by omega) (by omega) c d
    ·rw [h2 _ (by omega) (by omega)];exact ih _ _ (by omega) b (by omega) (by omega)
   ·rw [if_neg h];omega
 exact key _ _ _ (by omega) (Nat.zero_le _) hp (Nat.le_refl _)
theorem ynx {l:List ByteArray} (hr:jo2 l=true) (s:ByteArray):decide (posF (fun s=>s) l s<l.length∧l.getD (posF (fun s=>s) l s) noS=s)=hasN l s:=by
 cases h:hasN l s
 ·rw [decide_eq_false_iff_not];rintro ⟨h1,h2⟩;rw [List.getD_eq_getElem?_getD,List.getElem?_eq_getElem h1] at h2;exact jdt.1 h (h2 ▸ List.getElem_mem h1)
 ·rw [decide_eq_true_iff];obtain ⟨k,hk⟩:=List.mem_iff_getElem?.1 (jej.1 h);have hkl:=(List.getElem?_eq_some_iff.1 hk).1;have e:k=posF (fun s=>s) l s:=by
   rcases Nat.lt_trichotomy k (posF (fun s=>s) l s) with h | h | h
   ·have:=yb7 (f:=fun s:ByteArray=>s) h hk;rw [jrr] at this;cases this
   ·exact h
   ·have hp:=jpr (f:=fun s:ByteArray=>s) l s;have hpl:posF (fun s=>s) l s<l.length:=by omega
    have hx:l[posF (fun s=>s) l s]? = some l[posF (fun s=>s) l s]:=List.getElem?_eq_getElem hpl;have h3:=jxi (f:=fun s:ByteArray=>s) hr (Nat.le_refl _) hx;have h4:=(List.pairwise_iff_getElem.1 (jlb.1 hr)) (posF (fun s=>s) l s) k hpl hkl h;have e2:l[k]=s:=by rw [List.getElem?_eq_getElem hkl] at hk;injection hk
    simp only [e2] at h4;rw [h3] at h4;cases h4
  rw [← e];exact ⟨hkl,by rw [List.getD_eq_getElem?_getD,hk];rfl⟩
theorem jzm (l:List ByteArray) (v:Value) (s:ByteArray) (w:World) (h:Raw w 1 v l.length (jkb l)) (hr:jo2 l=true) (hb:l.length<4611686018427387904) :
  Calls Tryz.prog 154 #[v,.string s] w fun e w'=>e = .returned (.tuple #[.int .i64 (posF (fun s=>s) l s:Nat),.bool (hasN l s)])∧Below w.heap.size w w':=by
 obtain ⟨A,c,rfl,h2,h3,h4,h5,h6,h7⟩:=h;by_cases h0:0<l.length
 ·obtain ⟨b,o,rfl,h8⟩:=h6 h0;have hcon:=Any2.slices_BinarySearch_string Tryz.bsearch b o l.length c (fun t=>l.getD t noS) s w hb (fun j hj=>by
   refine h8 j _ ?_;rw [jkb,List.getElem?_map,List.getElem?_eq_getElem hj];simp [List.getD_eq_getElem?_getD,hj])
  change Calls Tryz.prog 154 _ _ _ at hcon;rw [ysn hr,ynx hr] at hcon;refine hcon.mono ?_;rintro e w' ⟨rfl,q,rfl⟩;exact ⟨rfl,⟨rfl,rfl,rfl,Nat.le_refl _,fun _ _=>rfl⟩⟩
 ·obtain rfl:l = []:=List.length_eq_zero_iff.1 (by omega);have hcon:=Any2.slices_BinarySearch_string_empty Tryz.bsearch A c s w;change Calls Tryz.prog 154 _ _ _ at hcon;refine hcon.mono ?_;rintro e w' ⟨rfl,rfl⟩;exact ⟨rfl,Below.refl _ _⟩
theorem jep (l:List ByteArray) (v:Value) (s:ByteArray) (w:World) (base:Nat) (h:OwnT w base v l) (hr:jo2 l=true) (hb:l.length≤1000000) (hbase:base≤w.heap.size) :
  Calls Tryz.prog 113 #[v,.string s] w fun e w'=>∃ v',e = .returned v'∧OwnT w' base v' (jbg l s)∧w.grownBy w' v.ownBlock∧jed w v v':=by
 have HO:=hid h;have RW:=hid (jkl h (jxc l));have HR:=hid hr;have HL:=hid h.lt;obtain ⟨A,c,rfl,hc1,hc2,-⟩:=jah h;have hpl:=jpr (f:=fun s:ByteArray=>s) l s;have EV:Hid (jbg l s=if hasN l s then l else l.take (posF (fun s=>s) l s) ++ s :: l.drop (posF (fun s=>s) l s)):=by
  show _=_
  unfold jbg;rw [juh]
 have EL:=hid (jip (f:=fun s:ByteArray=>s) l s);have EA:=hid (juh (f:=fun s:ByteArray=>s) l s);clear h hr;go_enter Tryz.func113,Tryz.ntmps113
 go_wp2_with fail
 refine (jzm l _ s _ RW.out HR.out (by omega)).mono ?_;rintro e w1 ⟨rfl,hb1⟩;generalize posF (fun s=>s) l s=p at *;cases hf:hasN l s
 ·have HE:Hid (jbg l s=insF (fun s=>s) l s):=by show _=_;rw [EV.out,hf,EA.out];rfl
  clear hf EV;have O1:Hid (OwnT w1 base (.slice A l.length c) l):=HO.out.keep (fun k hk=>hb1.block k (HL.out k hk).2);have hs1:=hb1.size;have hbn:=jac w1 (.cells #[.string s] 9);have hnew:Hid ((w1.alloc (.cells #[.string s] 9)).heap[w1.heap.size]? = some (.cells [Value.string s].toArray 9 (0,0))):=by show (w1.heap.push _)[w1.heap.size]? = _;simp
  have O2:Hid (OwnT (w1.alloc (.cells #[.string s] 9)) base (.slice A l.length c) l):=O1.out.keep (fun k hk=>hbn.block k (by have:=(HL.out k hk).2;omega));have hg2:Hid (w.grownBy (w1.alloc (.cells #[.string s] 9)) (Value.slice A l.length c).ownBlock):=World.grownBy.trans' (jbb hb1) (jbb hbn);have hz2:(w1.alloc (.cells #[.string s] 9)).heap.size=w1.heap.size+1:=by simp
  go_wp2_with fail
  generalize hw2:w1.alloc (.cells #[.string s] 9)=w2 at *;clear hw2;refine (yrj base _ l.length p (jkb l) [.string s] w1.heap.size _ O2.out (jxc l) hpl rfl (by intro u hu;simp at hu;subst hu;rfl) hnew.out (fun e=>by have:=(HL.out _ e).2;omega) (by omega) (by omega)).mono ?_;rintro e w3 ⟨v3,rfl,o3,hg3,hm3⟩;have HO3:=hid o3;have HM3:=hid hm3;clear o3 hm3;go_wp2;go_ret;refine ⟨v3,rfl,?_,World.grownBy.trans' hg2.out hg3,HM3.out.later (by have:=hg2.out.size;omega)⟩;rw [HE.out];unfold OwnT;rw [EL.out,EA.out];have e:jkb (l.take p ++ s :: l.drop p)=(jkb l).take p ++ [.string s] ++ (jkb l).drop p:=by simp [jkb,List.map_take,List.map_drop]
  rw [e];exact HO3.out
 ·have HE:Hid (jbg l s=l):=by show _=_;rw [EV.out,hf];rfl
  clear hf EV;go_wp2;go_ret;rw [HE.out];exact ⟨_,rfl,HO.out.keep (fun k hk=>hb1.block k (HL.out k hk).2),jbb hb1,jed.refl _ _⟩
end Go.Proofs.YthmlndmlnlfhnaaGreatDoor
