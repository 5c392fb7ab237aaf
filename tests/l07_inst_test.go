package tests

import (
	"math"
	"math/rand"
	"slices"
	"testing"

	"loop.example/g00634/impl"
)

const (
	mostIfaces = 3
	mostStep   = impl.MaxTime - 200
)

var (
	edgeCosts   = []int64{1, 2, 14, 15}
	wrongCosts  = []int64{0, -1, -15, 16, 17, 256 + 1, 1<<32 + 1, math.MaxInt64, math.MinInt64}
	edgeSteps   = []int64{0, 1, 500, mostStep - 1, mostStep}
	wrongSteps  = []int64{-1, -200, mostStep + 1, mostStep + 100, mostStep + 101, impl.MaxTime, impl.MaxTime + 1, 1 << 32, math.MaxInt64, math.MinInt64}
	wrongPlaces = []int64{-1, -2, -3, 3, 4, 256, 1 << 32, 1<<32 + 1, math.MaxInt64, math.MinInt64}
)

// The neighbours of the Ifaces that someIfaces tells.
const (
	by0 = 0x0A000002
	by1 = 0x0A000102
	by2 = 0x0A007F02
)

// someIfaces are right for up to four of them; none is Up, and no two cost the same. The third one's Net covers those ahead of it.
func someIfaces(many int) []impl.Iface {
	return []impl.Iface{
		{Addr: 0x0A000001, Net: impl.Net{Addr: 0x0A000000, Len: 24}, Cost: 1},
		{Addr: 0x0A000101, Net: impl.Net{Addr: 0x0A000100, Len: 24}, Cost: 2},
		{Addr: 0x0A007F01, Net: impl.Net{Addr: 0x0A000000, Len: 17}, Cost: 15},
		{Addr: 0x0B000001, Net: impl.Net{Addr: 0x0B000000, Len: 8}, Cost: 4},
	}[:many]
}

// allUp changes nothing of what it is given.
func allUp(l []impl.Iface) []impl.Iface {
	out := slices.Clone(l)
	for i := range out {
		out[i].Up = true
	}
	return out
}

// someInst is right, of so many Ifaces, all Up, and Routes of all kinds that are not of their Nets.
func someInst(many int) impl.Inst {
	return impl.Inst{Ifaces: allUp(someIfaces(many)), Rib: someRib(6), Now: 20}
}

// withDown has that Iface down.
func withDown(r impl.Inst, iface int) impl.Inst {
	r.Ifaces = slices.Clone(r.Ifaces)
	r.Ifaces[iface].Up = false
	return r
}

// tell is a Rip of those Entries.
func tell(l ...impl.Entry) impl.Rip {
	return impl.Rip{Cmd: impl.CmTell, Entries: l}
}

// instOf is what is told of a router.
func instOf(r impl.Inst) impl.InstOut {
	return impl.InstOut{Inst: r}
}

// noInst is a code, and nothing beside it.
func noInst(code int64) impl.InstOut {
	return impl.InstOut{Code: code}
}

func plainCovers(n impl.Net, a int64) bool {
	return plainNetRight(n) && isOneOf(a, 0, topAddr) && firstBits(n.Addr, a, n.Len)
}

func plainIface(f impl.Iface) bool {
	return plainCovers(f.Net, f.Addr) && isOneOf(f.Cost, 1, 15)
}

// plainIfaces holds each pair against each other.
func plainIfaces(l []impl.Iface) bool {
	if len(l) > mostIfaces {
		return false
	}
	for i, f := range l {
		for j, g := range l {
			if i != j && (f.Addr == g.Addr || netCmp(f.Net, g.Net) == 0) {
				return false
			}
		}
		if !plainIface(f) {
			return false
		}
	}
	return true
}

func plainInst(r impl.Inst) bool {
	return plainIfaces(r.Ifaces) && plainRib(r.Rib) && isOneOf(r.Now, 0, mostStep)
}

func plainNew(l []impl.Iface) impl.InstOut {
	if len(l) > impl.MaxList {
		return noInst(impl.ErrSize)
	}
	if !plainIfaces(l) {
		return noInst(impl.ErrForm)
	}
	out := impl.Inst{Ifaces: allUp(l)}
	for i, f := range l {
		out.Rib = plainWith(out.Rib, impl.Route{Net: f.Net, Metric: 1, Iface: int64(i), Changed: true})
	}
	return instOf(out)
}

func plainHas(r impl.Inst, iface int64) bool {
	return isOneOf(iface, 0, int64(len(r.Ifaces))-1)
}

func plainNear(r impl.Inst, iface int64, from int64) bool {
	if !plainInst(r) || !plainHas(r, iface) {
		return false
	}
	f := r.Ifaces[iface]
	return from != f.Addr && plainCovers(f.Net, from)
}

func plainOffer(r impl.Inst, iface int64, all bool) []impl.Entry {
	var out []impl.Entry
	if !plainInst(r) || !plainHas(r, iface) || !r.Ifaces[iface].Up {
		return out
	}
	for _, x := range r.Rib.Routes {
		e := impl.Entry{Net: x.Net, Metric: x.Metric, Tag: x.Tag}
		if x.Iface == iface {
			e.Metric = 16
		}
		if x.Changed || all {
			out = append(out, e)
		}
	}
	return out
}

// plainState is the first fault of those that all calls of an Iface have; OK without one.
func plainState(r impl.Inst, iface int64, up bool) int64 {
	switch {
	case !plainInst(r):
		return impl.ErrForm
	case !plainHas(r, iface):
		return impl.ErrNone
	case r.Ifaces[iface].Up != up:
		return impl.ErrState
	}
	return impl.OK
}

func plainRipRight(m impl.Rip) bool {
	for _, e := range m.Entries {
		if !plainSaid(impl.Route{Net: e.Net, Metric: e.Metric, Next: e.Next, Tag: e.Tag}) {
			return false
		}
	}
	return isOneOf(m.Cmd, 1, 2) && len(m.Entries) <= 8
}

func plainHear(r impl.Inst, iface int64, from int64, m impl.Rip) impl.InstOut {
	if !plainRipRight(m) {
		return noInst(impl.ErrForm)
	}
	if code := plainState(r, iface, true); code != impl.OK {
		return noInst(code)
	}
	if from == 0 || !plainNear(r, iface, from) {
		return noInst(impl.ErrAddr)
	}
	if m.Cmd == 1 {
		return instOf(r)
	}
	for _, e := range m.Entries {
		next := e.Next
		if next == 0 || !plainNear(r, iface, next) {
			next = from
		}
		metric := e.Metric + r.Ifaces[iface].Cost
		if metric > 16 {
			metric = 16
		}
		told := impl.Route{Net: e.Net, Metric: metric, Next: next, Iface: iface, Tag: e.Tag}
		if out := plainLearn(r.Rib, told, r.Now); out.Code == impl.OK {
			r.Rib = out.Rib
		}
	}
	return instOf(r)
}

func plainStep(r impl.Inst) impl.InstOut {
	if !plainInst(r) {
		return noInst(impl.ErrForm)
	}
	if r.Now == mostStep {
		return noInst(impl.ErrFull)
	}
	r.Now++
	r.Rib = plainTick(r.Rib, r.Now).Rib
	return instOf(r)
}

// plainTurned has that Iface turned, up or down.
func plainTurned(r impl.Inst, iface int64) impl.Inst {
	r.Ifaces = slices.Clone(r.Ifaces)
	r.Ifaces[iface].Up = !r.Ifaces[iface].Up
	return r
}

func plainDown(r impl.Inst, iface int64) impl.InstOut {
	if code := plainState(r, iface, true); code != impl.OK {
		return noInst(code)
	}
	r.Rib = plainLose(r.Rib, iface, r.Now).Rib
	return instOf(plainTurned(r, iface))
}

func plainUp(r impl.Inst, iface int64) impl.InstOut {
	if code := plainState(r, iface, false); code != impl.OK {
		return noInst(code)
	}
	own := plainOwn(r.Rib, r.Ifaces[iface].Net, iface)
	if own.Code != impl.OK {
		return noInst(own.Code)
	}
	r.Rib = own.Rib
	return instOf(plainTurned(r, iface))
}

func plainSettle(r impl.Inst) impl.InstOut {
	if !plainInst(r) {
		return noInst(impl.ErrForm)
	}
	r.Rib = plainQuiet(r.Rib)
	return instOf(r)
}

// sameInst takes an empty list and none as the same.
func sameInst(a impl.Inst, b impl.Inst) bool {
	return slices.Equal(a.Ifaces, b.Ifaces) && slices.Equal(a.Rib.Routes, b.Rib.Routes) && a.Now == b.Now
}

func holdInst(t *testing.T, what string, got impl.InstOut, want impl.InstOut) {
	t.Helper()
	if got.Code != want.Code || !sameInst(got.Inst, want.Inst) {
		t.Errorf("%s:\n got %+v\nwant %+v", what, got, want)
	}
	if got.Code == impl.OK && !plainInst(got.Inst) {
		t.Errorf("%s: what is told is not right: %+v", what, got.Inst)
	}
}

func holdOffer(t *testing.T, what string, got []impl.Entry, want []impl.Entry) {
	t.Helper()
	if !slices.Equal(got, want) {
		t.Errorf("%s:\n got %+v\nwant %+v", what, got, want)
	}
	if !impl.RipRight(tell(got...)) {
		t.Errorf("%s: what is told is not right: %+v", what, got)
	}
}

// holdRouter asks each call of a router what the plain ones tell of it.
func holdRouter(t *testing.T, what string, r impl.Inst, iface int64, from int64, m impl.Rip) {
	t.Helper()
	if got := impl.InstRight(r); got != plainInst(r) {
		t.Errorf("%s: InstRight(%+v): got %v", what, r, got)
	}
	if got := impl.Near(r, iface, from); got != plainNear(r, iface, from) {
		t.Errorf("%s: Near(%+v, %d, %d): got %v", what, r, iface, from, got)
	}
	holdOffer(t, what+": Offer of all", impl.Offer(r, iface, true), plainOffer(r, iface, true))
	holdOffer(t, what+": Offer of changes", impl.Offer(r, iface, false), plainOffer(r, iface, false))
	holdInst(t, what+": HearRip", impl.HearRip(r, iface, from, m), plainHear(r, iface, from, m))
	holdInst(t, what+": Step", impl.Step(r), plainStep(r))
	holdInst(t, what+": Down", impl.Down(r, iface), plainDown(r, iface))
	holdInst(t, what+": Up", impl.Up(r, iface), plainUp(r, iface))
	holdInst(t, what+": Settle", impl.Settle(r), plainSettle(r))
}

// ifaceNets lie within each other, and beside each other.
func ifaceNets() []impl.Net {
	return []impl.Net{
		{Addr: 0, Len: 0},
		{Addr: 0, Len: 8},
		{Addr: 0x0A000000, Len: 8},
		{Addr: 0x0A010000, Len: 16},
		{Addr: 0x0A010100, Len: 24},
		{Addr: 0x0A010102, Len: 31},
		{Addr: 0x0A010101, Len: 32},
		{Addr: 0xC0A80000, Len: 16},
	}
}

// anyIn is an address that the Net covers, often one of the first or the last.
func anyIn(r *rand.Rand, n impl.Net) int64 {
	size := int64(1) << (32 - n.Len)
	of := []int64{0, min(1, size-1), min(2, size-1), size - 1, r.Int63n(size)}
	return n.Addr + of[r.Intn(len(of))]
}

// anyIfaces are right, of so many.
func anyIfaces(r *rand.Rand, many int) []impl.Iface {
	nets := ifaceNets()
	for {
		var l []impl.Iface
		for _, at := range r.Perm(len(nets))[:many] {
			l = append(l, impl.Iface{Addr: anyIn(r, nets[at]), Net: nets[at], Cost: edgeCosts[r.Intn(len(edgeCosts))], Up: r.Intn(4) > 0})
		}
		if plainIfaces(l) {
			return l
		}
	}
}

// anyStep is often at an edge.
func anyStep(r *rand.Rand) int64 {
	if r.Intn(2) == 0 {
		return edgeSteps[r.Intn(len(edgeSteps))]
	}
	return r.Int63n(mostStep + 1)
}

// anyInst is right.
func anyInst(r *rand.Rand) impl.Inst {
	now := anyStep(r)
	return impl.Inst{Ifaces: anyIfaces(r, r.Intn(mostIfaces+1)), Rib: anyRib(r, r.Intn(mostRoutes+1), now), Now: now}
}

// anyPlace is most often that of an Iface that is there.
func anyPlace(r *rand.Rand, l []impl.Iface) int64 {
	if len(l) == 0 || r.Intn(8) == 0 {
		return int64(r.Intn(6) - 2)
	}
	return int64(r.Intn(len(l)))
}

// anyFrom is most often an address that an Iface of these covers.
func anyFrom(r *rand.Rand, l []impl.Iface) int64 {
	some := []int64{0, 1, -1, topAddr, topAddr + 1, 0x0A010102}
	if len(l) == 0 || r.Intn(8) == 0 {
		return some[r.Intn(len(some))]
	}
	f := l[r.Intn(len(l))]
	if r.Intn(8) == 0 {
		return f.Addr
	}
	return anyIn(r, f.Net)
}

// anyTold is right, of Nets that tables have too, and of Nexts about these Ifaces.
func anyTold(r *rand.Rand, l []impl.Iface) impl.Rip {
	m := impl.Rip{Cmd: 2}
	if r.Intn(8) == 0 {
		m.Cmd = 1
	}
	nets := append(netsOfAll(), ifaceNets()...)
	for range r.Intn(9) {
		next := max(0, min(topAddr, anyFrom(r, l)))
		if r.Intn(2) == 0 {
			next = 0
		}
		m.Entries = append(m.Entries, impl.Entry{Net: nets[r.Intn(len(nets))], Next: next, Metric: []int64{1, 2, 13, 14, 15, 16}[r.Intn(6)], Tag: []int64{0, 7}[r.Intn(2)]})
	}
	return m
}

func TestIfaceRight(t *testing.T) {
	nets := append(append(ifaceNets(), netsOfAll()...), wrongNets()...)
	right := 0
	for _, n := range nets {
		last := n.Addr
		if plainNetRight(n) {
			last = n.Addr + 1<<(32-n.Len) - 1
		}
		addrs := append([]int64{n.Addr, n.Addr - 1, n.Addr + 1, last - 1, last, last + 1}, edgeAddrs...)
		for _, a := range append(addrs, wrongAddrs...) {
			for _, cost := range append(wrongCosts, edgeCosts...) {
				for _, up := range []bool{true, false} {
					f := impl.Iface{Addr: a, Net: n, Cost: cost, Up: up}
					if got := impl.IfaceRight(f); got != plainIface(f) {
						t.Errorf("IfaceRight(%+v): got %v", f, got)
					}
					if plainIface(f) {
						right++
					}
				}
			}
		}
	}
	if right == 0 {
		t.Error("none of them was right")
	}
}

func TestIfaceRightOneByOne(t *testing.T) {
	n := impl.Net{Addr: 0x0A010000, Len: 16}
	for _, x := range []struct {
		f    impl.Iface
		want bool
	}{
		{impl.Iface{Addr: 0x0A010001, Net: n, Cost: 1}, true},
		{impl.Iface{Addr: 0x0A010001, Net: n, Cost: 1, Up: true}, true},
		{impl.Iface{Addr: 0x0A010000, Net: n, Cost: 1}, true},
		{impl.Iface{Addr: 0x0A01FFFF, Net: n, Cost: 15}, true},
		{impl.Iface{Addr: 0, Net: impl.Net{}, Cost: 1}, true},
		{impl.Iface{Addr: topAddr, Net: impl.Net{Addr: topAddr, Len: 32}, Cost: 1}, true},
		{impl.Iface{Addr: 0x0A00FFFF, Net: n, Cost: 1}, false},
		{impl.Iface{Addr: 0x0A020000, Net: n, Cost: 1}, false},
		{impl.Iface{Addr: 0x0A010001, Net: n, Cost: 0}, false},
		{impl.Iface{Addr: 0x0A010001, Net: n, Cost: 16}, false},
		{impl.Iface{Addr: 0x0A010001, Net: n, Cost: -1}, false},
		{impl.Iface{Addr: 0x0A010001, Net: impl.Net{Addr: 0x0A010001, Len: 16}, Cost: 1}, false},
		{impl.Iface{Addr: 0x0A010001, Net: impl.Net{Addr: 0x0A010000, Len: 33}, Cost: 1}, false},
		{impl.Iface{Addr: -1, Net: impl.Net{}, Cost: 1}, false},
		{impl.Iface{Addr: topAddr + 1, Net: impl.Net{}, Cost: 1}, false},
		{impl.Iface{}, false},
	} {
		if got := impl.IfaceRight(x.f); got != x.want {
			t.Errorf("IfaceRight(%+v): got %v", x.f, got)
		}
	}
}

// wrongIfaceLists have each one fault.
func wrongIfaceLists() [][]impl.Iface {
	out := [][]impl.Iface{someIfaces(4), allUp(someIfaces(4)), {{}}}
	for many := 1; many <= mostIfaces; many++ {
		for at := range many {
			bad := func(put func(*impl.Iface)) {
				l := allUp(someIfaces(many))
				put(&l[at])
				out = append(out, l)
			}
			for _, cost := range wrongCosts {
				bad(func(f *impl.Iface) { f.Cost = cost })
			}
			for _, n := range wrongNets() {
				bad(func(f *impl.Iface) { f.Net = n })
			}
			for _, a := range append(wrongAddrs, 0x0C000001) {
				bad(func(f *impl.Iface) { f.Addr = a })
			}
			for other := range many {
				if other != at {
					bad(func(f *impl.Iface) { *f = someIfaces(many)[other] })
				}
			}
		}
	}
	return append(out, alikeIfaces()...)
}

// alikeIfaces are right one by one, but two of them have one Addr, or one Net.
func alikeIfaces() [][]impl.Iface {
	var out [][]impl.Iface
	wide := impl.Net{Addr: 0x0A000000, Len: 8}
	wider := impl.Net{Addr: 0x0A000000, Len: 7}
	for many := 2; many <= mostIfaces; many++ {
		for a := range many {
			for b := range a {
				oneAddr := someIfaces(many)
				oneAddr[a] = impl.Iface{Addr: oneAddr[b].Addr, Net: wide, Cost: 3}
				oneNet := someIfaces(many)
				oneNet[a] = impl.Iface{Addr: oneNet[b].Net.Addr + 9, Net: oneNet[b].Net, Cost: 3}
				turned := slices.Clone(oneAddr)
				turned[b].Net = wider
				out = append(out, oneAddr, oneNet, turned)
			}
		}
	}
	return out
}

func TestInstRight(t *testing.T) {
	for many := range mostIfaces + 1 {
		r := someInst(many)
		if !impl.InstRight(r) {
			t.Errorf("InstRight(%+v): got false", r)
		}
		for at := range many {
			if !impl.InstRight(withDown(r, at)) {
				t.Errorf("InstRight with the Iface %d down: got false", at)
			}
		}
		for size := range mostRoutes + 1 {
			r.Rib = someRib(size)
			if !impl.InstRight(r) {
				t.Errorf("InstRight(%+v): got false", r)
			}
		}
	}
	if !impl.InstRight(impl.Inst{}) || !impl.InstRight(impl.Inst{Ifaces: []impl.Iface{}, Rib: impl.Rib{Routes: []impl.Route{}}}) {
		t.Errorf("InstRight of nothing: got false")
	}
	for _, now := range edgeSteps {
		r := someInst(2)
		r.Now = now
		if !impl.InstRight(r) {
			t.Errorf("InstRight at %d: got false", now)
		}
	}
}

// wrongInsts have each one fault; all have an Iface 0 where they may.
func wrongInsts() []impl.Inst {
	var out []impl.Inst
	for _, l := range wrongIfaceLists() {
		out = append(out, impl.Inst{Ifaces: l, Rib: someRib(6), Now: 20})
	}
	bad := func(put func(*impl.Inst)) {
		r := someInst(2)
		put(&r)
		out = append(out, r)
	}
	for _, now := range wrongSteps {
		bad(func(r *impl.Inst) { r.Now = now })
	}
	for _, x := range append(wrongSaid(), wrongTimes()...) {
		bad(func(r *impl.Inst) { r.Rib = impl.Rib{Routes: []impl.Route{x}} })
		bad(func(r *impl.Inst) { r.Rib.Routes[5] = x })
	}
	for many := mostRoutes + 1; many <= len(netsOfAll()); many++ {
		bad(func(r *impl.Inst) { r.Rib = someRib(many) })
	}
	bad(func(r *impl.Inst) { slices.Reverse(r.Rib.Routes) })
	bad(func(r *impl.Inst) { r.Rib.Routes[3] = r.Rib.Routes[2] })
	for _, many := range []int{5, 256, impl.MaxList, impl.MaxList + 1} {
		bad(func(r *impl.Inst) { r.Ifaces = manyIfaces(many) })
	}
	return out
}

// manyIfaces are right one by one, and unlike.
func manyIfaces(many int) []impl.Iface {
	var l []impl.Iface
	for i := range int64(many) {
		l = append(l, impl.Iface{Addr: i<<8 + 1, Net: impl.Net{Addr: i << 8, Len: 24}, Cost: 1, Up: true})
	}
	return l
}

// TestInstsThatAreNotRight: no call takes one, whatever else is handed in, and whether there is such an Iface or not.
func TestInstsThatAreNotRight(t *testing.T) {
	for _, r := range wrongInsts() {
		if plainInst(r) {
			t.Fatalf("the test asks for no right one, but it is: %+v", r)
		}
		if impl.InstRight(r) {
			t.Errorf("InstRight(%+v): got true", r)
		}
		for _, iface := range append([]int64{0, 1, 2}, wrongPlaces...) {
			if impl.Near(r, iface, by0) {
				t.Errorf("Near(%+v, %d): got true", r, iface)
			}
			if got := len(impl.Offer(r, iface, true)) + len(impl.Offer(r, iface, false)); got != 0 {
				t.Errorf("Offer(%+v, %d): got %d", r, iface, got)
			}
			for _, m := range []impl.Rip{someRip(2), {Cmd: impl.CmAsk}, {}} {
				holdInst(t, "HearRip", impl.HearRip(r, iface, by0, m), noInst(impl.ErrForm))
				holdInst(t, "HearRip", impl.HearRip(r, iface, 0, m), noInst(impl.ErrForm))
			}
			holdInst(t, "Down", impl.Down(r, iface), noInst(impl.ErrForm))
			holdInst(t, "Up", impl.Up(r, iface), noInst(impl.ErrForm))
		}
		holdInst(t, "Step", impl.Step(r), noInst(impl.ErrForm))
		holdInst(t, "Settle", impl.Settle(r), noInst(impl.ErrForm))
	}
}

func TestInstNewOneByOne(t *testing.T) {
	own := func(n impl.Net, iface int64) impl.Route {
		return impl.Route{Net: n, Metric: 1, Iface: iface, Changed: true}
	}
	l := someIfaces(3)
	for many, routes := range [][]impl.Route{
		nil,
		{own(l[0].Net, 0)},
		{own(l[0].Net, 0), own(l[1].Net, 1)},
		{own(l[2].Net, 2), own(l[0].Net, 0), own(l[1].Net, 1)},
	} {
		want := instOf(impl.Inst{Ifaces: allUp(l[:many]), Rib: impl.Rib{Routes: routes}})
		holdInst(t, "all down ahead", impl.InstNew(l[:many]), want)
		holdInst(t, "all up ahead", impl.InstNew(allUp(l[:many])), want)
		if many > 0 {
			mixed := allUp(l[:many])
			mixed[0].Up = false
			holdInst(t, "some up ahead", impl.InstNew(mixed), want)
		}
	}
	holdInst(t, "an empty list", impl.InstNew([]impl.Iface{}), instOf(impl.Inst{}))
	turned := []impl.Iface{l[2], l[1], l[0]}
	want := instOf(impl.Inst{Ifaces: allUp(turned), Rib: ribOf(own(l[2].Net, 0), own(l[0].Net, 2), own(l[1].Net, 1)).Rib})
	holdInst(t, "turned round", impl.InstNew(turned), want)
}

func TestInstNewFaults(t *testing.T) {
	for _, l := range wrongIfaceLists() {
		holdInst(t, "not right", impl.InstNew(l), noInst(impl.ErrForm))
	}
	for _, many := range []int{4, 5, 256, impl.MaxList - 1, impl.MaxList} {
		holdInst(t, "too many", impl.InstNew(manyIfaces(many)), noInst(impl.ErrForm))
		holdInst(t, "too many, none right", impl.InstNew(make([]impl.Iface, many)), noInst(impl.ErrForm))
	}
	for _, many := range []int{impl.MaxList + 1, impl.MaxList + 2, 10000} {
		holdInst(t, "far too many", impl.InstNew(manyIfaces(many)), noInst(impl.ErrSize))
		holdInst(t, "far too many, none right", impl.InstNew(make([]impl.Iface, many)), noInst(impl.ErrSize))
	}
}

func TestInstNewAny(t *testing.T) {
	r := rand.New(rand.NewSource(67))
	for range 2000 {
		l := anyIfaces(r, r.Intn(mostIfaces+1))
		holdInst(t, "new", impl.InstNew(l), plainNew(l))
	}
}

func TestNearOneByOne(t *testing.T) {
	r := someInst(3)
	for _, x := range []struct {
		iface, from int64
		want        bool
	}{
		{0, by0, true}, {0, 0x0A000000, true}, {0, 0x0A0000FF, true},
		{0, 0x0A000001, false}, {0, 0x09FFFFFF, false}, {0, 0x0A000100, false}, {0, by1, false}, {0, by2, false},
		{1, by1, true}, {1, 0x0A000101, false}, {1, 0x0A000001, false}, {1, by0, false},
		{2, by2, true}, {2, by1, true}, {2, 0x0A000001, true}, {2, 0x0A000101, true}, {2, 0x0A007F01, false}, {2, 0x0A007FFF, true}, {2, 0x0A008000, false},
		{0, 0, false}, {0, -1, false}, {0, topAddr, false}, {0, topAddr + 1, false}, {0, 1<<32 + by0, false}, {0, by0 - 1<<32, false},
		{-1, by0, false}, {3, by0, false}, {4, by0, false}, {1 << 32, by0, false}, {math.MaxInt64, by0, false}, {math.MinInt64, by0, false},
	} {
		if got := impl.Near(r, x.iface, x.from); got != x.want {
			t.Errorf("Near(%d, %d): got %v", x.iface, x.from, got)
		}
		if plainHas(r, x.iface) {
			if got := impl.Near(withDown(r, int(x.iface)), x.iface, x.from); got != x.want {
				t.Errorf("Near(%d, %d) of one that is down: got %v", x.iface, x.from, got)
			}
		}
	}
	wide := impl.Inst{Ifaces: []impl.Iface{{Addr: 5, Net: impl.Net{}, Cost: 1}}}
	for _, a := range edgeAddrs {
		if !impl.Near(wide, 0, a) {
			t.Errorf("Near of all addresses: %d: got false", a)
		}
	}
	for _, a := range append(wrongAddrs, 5) {
		if impl.Near(wide, 0, a) {
			t.Errorf("Near of all addresses: %d: got true", a)
		}
	}
	lone := impl.Inst{Ifaces: []impl.Iface{{Addr: 5, Net: impl.Net{Addr: 5, Len: 32}, Cost: 1}}}
	for _, a := range append([]int64{4, 5, 6}, edgeAddrs...) {
		if impl.Near(lone, 0, a) {
			t.Errorf("Near of one address: %d: got true", a)
		}
	}
	for many := range mostIfaces {
		if impl.Near(someInst(many), int64(many), by0) || impl.Near(someInst(many), -1, by0) {
			t.Errorf("Near of %d Ifaces: one that is not there: got true", many)
		}
	}
}

// mixedInst has Routes of all kinds by both its Ifaces and by others, Changed and not.
func mixedInst() impl.Inst {
	n := netsOfAll()
	return impl.Inst{Ifaces: allUp(someIfaces(2)), Now: 20, Rib: impl.Rib{Routes: []impl.Route{
		{Net: n[0], Metric: 1, Iface: 0, Changed: true},
		{Net: n[1], Metric: 1, Iface: 1},
		{Net: n[2], Metric: 4, Next: 9, Iface: 0, Tag: 7, Until: 30},
		{Net: n[3], Metric: 5, Next: 8, Iface: 1, Tag: 6, Until: 31, Changed: true},
		{Net: n[4], Metric: 16, Next: 9, Iface: 0, Tag: 5, Bin: 32, Changed: true},
		{Net: n[5], Metric: 16, Next: 8, Iface: 1, Tag: 4, Bin: 33},
		{Net: n[6], Metric: 15, Next: 3, Iface: 3, Tag: 1000, Until: 34, Changed: true},
		{Net: n[7], Metric: 6, Next: 2, Iface: 2, Tag: 65535, Until: 35},
	}}}
}

func TestOfferOneByOne(t *testing.T) {
	n := netsOfAll()
	all := func(m ...int64) []impl.Entry {
		var out []impl.Entry
		for i, tag := range []int64{0, 0, 7, 6, 5, 4, 1000, 65535} {
			out = append(out, impl.Entry{Net: n[i], Metric: m[i], Tag: tag})
		}
		return out
	}
	of := func(l []impl.Entry, places ...int) []impl.Entry {
		var out []impl.Entry
		for _, at := range places {
			out = append(out, l[at])
		}
		return out
	}
	r := mixedInst()
	there := all(16, 1, 16, 5, 16, 16, 15, 6)
	here := all(1, 16, 4, 16, 16, 16, 15, 6)
	holdOffer(t, "all by 0", impl.Offer(r, 0, true), there)
	holdOffer(t, "all by 1", impl.Offer(r, 1, true), here)
	holdOffer(t, "changes by 0", impl.Offer(r, 0, false), of(there, 0, 3, 4, 6))
	holdOffer(t, "changes by 1", impl.Offer(r, 1, false), of(here, 0, 3, 4, 6))
	for _, all := range []bool{true, false} {
		for _, iface := range append([]int64{2}, wrongPlaces...) {
			holdOffer(t, "no such Iface", impl.Offer(r, iface, all), nil)
		}
		for at := range 2 {
			holdOffer(t, "down", impl.Offer(withDown(r, at), int64(at), all), nil)
			holdOffer(t, "another one down", impl.Offer(withDown(r, 1-at), int64(at), all), plainOffer(r, int64(at), all))
		}
		holdOffer(t, "no Routes", impl.Offer(impl.Inst{Ifaces: r.Ifaces}, 0, all), nil)
		holdOffer(t, "no Ifaces", impl.Offer(impl.Inst{Rib: r.Rib}, 0, all), nil)
	}
	holdOffer(t, "nothing changed", impl.Offer(impl.Settle(r).Inst, 0, false), nil)
	holdOffer(t, "nothing changed, all", impl.Offer(impl.Settle(r).Inst, 0, true), there)
}

// TestP10NothingBackButOutOfReach: whatever the router has, by where a Route came it is told as Infinity, and elsewhere as it is.
func TestP10NothingBackButOutOfReach(t *testing.T) {
	r := rand.New(rand.NewSource(68))
	for range 10000 {
		x := anyInst(r)
		for iface := range int64(len(x.Ifaces)) {
			for _, all := range []bool{true, false} {
				got := impl.Offer(x, iface, all)
				holdOffer(t, "offered", got, plainOffer(x, iface, all))
				for _, e := range got {
					from := impl.RibFind(x.Rib, e.Net)
					if from.Iface == iface && e.Metric != impl.Infinity {
						t.Fatalf("Offer(%+v, %d, %v): back to where it came from: %+v", x, iface, all, e)
					}
					if from.Iface != iface && e.Metric != from.Metric {
						t.Fatalf("Offer(%+v, %d, %v): not as it is: %+v", x, iface, all, e)
					}
				}
			}
		}
	}
}

// TestP10HeardIsNotToldBack: right behind what an Iface heard, it tells its neighbours nothing of it that they could use.
func TestP10HeardIsNotToldBack(t *testing.T) {
	r := rand.New(rand.NewSource(69))
	heard := 0
	for range 10000 {
		x := anyInst(r)
		iface, from, m := anyPlace(r, x.Ifaces), anyFrom(r, x.Ifaces), anyTold(r, x.Ifaces)
		got := impl.HearRip(x, iface, from, m)
		if got.Code != impl.OK || m.Cmd != impl.CmTell {
			continue
		}
		for _, e := range impl.Offer(got.Inst, iface, true) {
			was, is := impl.RibFind(x.Rib, e.Net), impl.RibFind(got.Inst.Rib, e.Net)
			if is == was {
				continue
			}
			heard++
			if e.Metric != impl.Infinity {
				t.Fatalf("HearRip(%+v, %d, %d, %+v): told back: %+v", x, iface, from, m, e)
			}
		}
	}
	if heard < 1000 {
		t.Errorf("only %d were heard", heard)
	}
}

// TestP10WhatIsToldCosts goes through all Metrics and all Costs.
func TestP10WhatIsToldCosts(t *testing.T) {
	n := impl.Net{Addr: 0x0B000000, Len: 8}
	for cost := int64(1); cost <= 15; cost++ {
		for metric := int64(1); metric <= impl.Infinity; metric++ {
			l := someIfaces(2)
			l[1].Cost = cost
			r := impl.InstNew(l).Inst
			got := impl.HearRip(r, 1, by1, tell(impl.Entry{Net: n, Metric: metric, Tag: 3}))
			want := impl.Route{Net: n, Metric: metric + cost, Next: by1, Iface: 1, Tag: 3, Until: 6, Changed: true}
			if metric+cost >= impl.Infinity {
				want = impl.Route{}
			}
			if found := impl.RibFind(got.Inst.Rib, n); got.Code != impl.OK || found != want {
				t.Errorf("Cost %d, Metric %d: got %d, %+v, want %+v", cost, metric, got.Code, found, want)
			}
			// Heard ahead from the same one, it is out of reach from there on.
			r.Rib = impl.RibLearn(r.Rib, impl.Route{Net: n, Metric: 1, Next: by1, Iface: 1, Tag: 3}, 0).Rib
			want.Changed = true
			if metric+cost >= impl.Infinity {
				want = impl.Route{Net: n, Metric: impl.Infinity, Next: by1, Iface: 1, Tag: 3, Bin: 4, Changed: true}
			}
			got = impl.HearRip(r, 1, by1, tell(impl.Entry{Net: n, Metric: metric, Tag: 3}))
			if found := impl.RibFind(got.Inst.Rib, n); got.Code != impl.OK || found != want {
				t.Errorf("Cost %d, Metric %d, heard ahead: got %d, %+v, want %+v", cost, metric, got.Code, found, want)
			}
		}
	}
}

// TestP10CostsFromRouterToRouter hands what one tells to the next one: each adds what its own Iface costs.
func TestP10CostsFromRouterToRouter(t *testing.T) {
	link := impl.Net{Addr: 0x0A640000, Len: 24}
	other := impl.Net{Addr: 0x0A640100, Len: 24}
	home := impl.Net{Addr: 0x0A000000, Len: 16}
	a := impl.InstNew([]impl.Iface{{Addr: 0x0A000001, Net: home, Cost: 9}, {Addr: 0x0A640001, Net: link, Cost: 9}}).Inst
	for first := int64(1); first <= 15; first++ {
		for second := int64(1); second <= 15; second++ {
			b := impl.InstNew([]impl.Iface{{Addr: 0x0A640002, Net: link, Cost: first}, {Addr: 0x0A640101, Net: other, Cost: 9}}).Inst
			c := impl.InstNew([]impl.Iface{{Addr: 0x0A640102, Net: other, Cost: second}}).Inst
			b = impl.HearRip(b, 0, 0x0A640001, tell(impl.Offer(a, 1, true)...)).Inst
			c = impl.HearRip(c, 0, 0x0A640101, tell(impl.Offer(b, 1, true)...)).Inst
			atB, atC := impl.RibFind(b.Rib, home).Metric, impl.RibFind(c.Rib, home).Metric
			wantB, wantC := 1+first, 1+first+second
			if wantB >= impl.Infinity {
				wantB = 0
			}
			if wantC >= impl.Infinity {
				wantC = 0
			}
			if atB != wantB || atC != wantC {
				t.Errorf("Costs %d and %d: got %d and %d, want %d and %d", first, second, atB, atC, wantB, wantC)
			}
		}
	}
}

func TestHearRipOneByOne(t *testing.T) {
	n := netsOfAll()
	r := impl.Inst{Ifaces: allUp(someIfaces(3)), Now: 20, Rib: impl.Rib{Routes: []impl.Route{
		{Net: n[4], Metric: 1, Iface: 0},
		{Net: n[5], Metric: 4, Next: by1, Iface: 1, Tag: 7, Until: 22},
		{Net: n[6], Metric: 9, Next: by0, Iface: 0, Tag: 6, Until: 22},
		{Net: n[7], Metric: 16, Next: by1, Iface: 1, Tag: 5, Bin: 22},
	}}}
	entry := func(at int, metric int64) impl.Entry { return impl.Entry{Net: n[at], Metric: metric, Tag: 3} }
	route := func(at int, metric int64) impl.Route {
		return impl.Route{Net: n[at], Metric: metric, Next: by1, Iface: 1, Tag: 3, Until: 26, Changed: true}
	}
	with := func(l ...impl.Route) impl.InstOut {
		out := r
		for _, x := range l {
			if at := plainPlace(out.Rib, x.Net); at >= 0 {
				out.Rib = plainAt(out.Rib, at, x)
			} else {
				out.Rib = plainWith(out.Rib, x)
			}
		}
		return instOf(out)
	}
	lost := func(at int, tag int64) impl.Route {
		return impl.Route{Net: n[at], Metric: 16, Next: by1, Iface: 1, Tag: tag, Bin: 24, Changed: true}
	}
	kept := r.Rib.Routes[1]
	kept.Until = 26
	for _, x := range []struct {
		what string
		m    impl.Rip
		want impl.InstOut
	}{
		{"nothing", tell(), instOf(r)},
		{"a question", impl.Rip{Cmd: impl.CmAsk, Entries: []impl.Entry{entry(8, 1), entry(5, 16)}}, instOf(r)},
		{"an empty question", impl.Rip{Cmd: impl.CmAsk}, instOf(r)},
		{"a new one", tell(entry(8, 1)), with(route(8, 3))},
		{"a new one below Infinity", tell(entry(8, 13)), with(route(8, 15))},
		{"a new one at Infinity", tell(entry(8, 14)), instOf(r)},
		{"a new one above Infinity", tell(entry(8, 15)), instOf(r)},
		{"a new one of Infinity", tell(entry(8, 16)), instOf(r)},
		{"its own", tell(entry(4, 1)), instOf(r)},
		{"its own, of Infinity", tell(entry(4, 16)), instOf(r)},
		{"the same again", tell(impl.Entry{Net: n[5], Metric: 2, Tag: 7}), with(kept)},
		{"the same, another Tag", tell(entry(5, 2)), with(route(5, 4))},
		{"the same, further", tell(entry(5, 3)), with(route(5, 5))},
		{"the same, nearer", tell(entry(5, 1)), with(route(5, 3))},
		{"the same, at Infinity", tell(entry(5, 14)), with(lost(5, 7))},
		{"the same, above Infinity", tell(entry(5, 15)), with(lost(5, 7))},
		{"the same, of Infinity", tell(entry(5, 16)), with(lost(5, 7))},
		{"another's, nearer", tell(entry(6, 6)), with(route(6, 8))},
		{"another's, as near", tell(entry(6, 7)), instOf(r)},
		{"another's, further", tell(entry(6, 8)), instOf(r)},
		{"another's, of Infinity", tell(entry(6, 16)), instOf(r)},
		{"back from Infinity", tell(entry(7, 13)), with(route(7, 15))},
		{"Infinity again", tell(entry(7, 14)), instOf(r)},
		{"all of them", tell(entry(8, 1), entry(4, 1), entry(5, 3), entry(6, 6), entry(7, 13), entry(0, 5)), with(route(8, 3), route(5, 5), route(6, 8), route(7, 15), route(0, 7))},
		{"one twice, nearer", tell(entry(8, 5), entry(8, 1)), with(route(8, 3))},
		{"one twice, further", tell(entry(8, 1), entry(8, 5)), with(route(8, 7))},
		{"one twice, gone", tell(entry(8, 1), entry(8, 16)), with(lost(8, 3))},
		{"one twice, back", tell(entry(8, 16), entry(8, 1)), with(route(8, 3))},
	} {
		holdInst(t, x.what, impl.HearRip(r, 1, by1, x.m), x.want)
		holdInst(t, x.what+", the plain one", plainHear(r, 1, by1, x.m), x.want)
	}
}

// TestHearRipNext: the way goes by who told of it, unless the Entry names one that is in reach there.
func TestHearRipNext(t *testing.T) {
	n := impl.Net{Addr: 0x0B000000, Len: 8}
	l := someIfaces(3)
	l[2].Cost = 3
	r := impl.InstNew(l).Inst
	for _, x := range []struct {
		what              string
		iface, from, next int64
		want              int64
	}{
		{"none", 1, by1, 0, by1},
		{"near", 1, by1, 0x0A000177, 0x0A000177},
		{"the first near", 1, by1, 0x0A000100, 0x0A000100},
		{"the last near", 1, by1, 0x0A0001FF, 0x0A0001FF},
		{"who tells it", 1, by1, by1, by1},
		{"the Iface's own", 1, by1, 0x0A000101, by1},
		{"one less than near", 1, by1, 0x0A0000FF, by1},
		{"one more than near", 1, by1, 0x0A000200, by1},
		{"near by another Iface", 1, by1, by0, by1},
		{"another Iface's own", 1, by1, 0x0A000001, by1},
		{"far", 1, by1, 0x0C000001, by1},
		{"the last address", 1, by1, topAddr, by1},
		{"another Iface's own, near", 2, by2, 0x0A000001, 0x0A000001},
		{"near by two", 2, by2, by1, by1},
	} {
		got := impl.HearRip(r, x.iface, x.from, tell(impl.Entry{Net: n, Metric: 1, Next: x.next}))
		want := impl.Route{Net: n, Metric: 1 + l[x.iface].Cost, Next: x.want, Iface: x.iface, Until: 6, Changed: true}
		if found := impl.RibFind(got.Inst.Rib, n); got.Code != impl.OK || found != want {
			t.Errorf("%s: got %d, %+v, want %+v", x.what, got.Code, found, want)
		}
	}
	wide := impl.InstNew([]impl.Iface{{Addr: 5, Net: impl.Net{}, Cost: 1}}).Inst
	for _, next := range edgeAddrs {
		got := impl.HearRip(wide, 0, 77, tell(impl.Entry{Net: n, Metric: 1, Next: next}))
		want := next
		if next == 0 {
			want = 77
		}
		if found := impl.RibFind(got.Inst.Rib, n).Next; found != want {
			t.Errorf("Next %d of all addresses: got %d", next, found)
		}
	}
}

// TestHearRipNextOfEach: each Entry has its own Next.
func TestHearRipNextOfEach(t *testing.T) {
	r := impl.InstNew(someIfaces(2)).Inst
	n := netsOfAll()
	m := tell(
		impl.Entry{Net: n[4], Metric: 1, Next: 0x0A000150},
		impl.Entry{Net: n[5], Metric: 2},
		impl.Entry{Net: n[6], Metric: 3, Next: 0x0A000151},
		impl.Entry{Net: n[7], Metric: 4, Next: 9},
	)
	got := impl.HearRip(r, 1, by1, m)
	for i, want := range []int64{0x0A000150, by1, 0x0A000151, by1} {
		found := impl.RibFind(got.Inst.Rib, n[4+i])
		if found.Next != want || found.Metric != int64(i)+3 || found.Iface != 1 {
			t.Errorf("Entry %d: got %+v, want Next %d", i, found, want)
		}
	}
}

// TestHearRipFull: what would make a full table fuller changes nothing, and the others are learned.
func TestHearRipFull(t *testing.T) {
	n := netsOfAll()
	r := impl.Inst{Ifaces: allUp(someIfaces(2)), Now: 10}
	for i := range mostRoutes {
		r.Rib.Routes = append(r.Rib.Routes, impl.Route{Net: n[i+2], Metric: 9, Next: 7, Iface: 0, Until: 30})
	}
	route := func(at int, metric int64) impl.Route {
		return impl.Route{Net: n[at], Metric: metric, Next: by1, Iface: 1, Tag: 3, Until: 16, Changed: true}
	}
	entry := func(at int) impl.Entry { return impl.Entry{Net: n[at], Metric: 1, Tag: 3} }
	for _, more := range []int{0, 1, 10, 11} {
		for at := range 4 {
			l := []impl.Entry{entry(2), entry(5), entry(9)}
			l = slices.Insert(l, at, entry(more))
			want := r
			for _, place := range []int{2, 5, 9} {
				want.Rib = plainAt(want.Rib, place-2, route(place, 3))
			}
			holdInst(t, "full", impl.HearRip(r, 1, by1, tell(l...)), instOf(want))
		}
		holdInst(t, "full, alone", impl.HearRip(r, 1, by1, tell(entry(more))), instOf(r))
	}
	holdInst(t, "full, all others", impl.HearRip(r, 1, by1, tell(entry(0), entry(1), entry(10), entry(11))), instOf(r))
	room := r
	room.Rib = impl.Rib{Routes: r.Rib.Routes[:mostRoutes-1]}
	want := room
	want.Rib = plainWith(room.Rib, route(11, 3))
	want.Rib = plainAt(want.Rib, 0, route(2, 3))
	holdInst(t, "room for the first one", impl.HearRip(room, 1, by1, tell(entry(11), entry(10), entry(0), entry(2))), instOf(want))
}

// TestHearRipWrongFrom: it is from nobody, from itself, or from elsewhere.
func TestHearRipWrongFrom(t *testing.T) {
	r := someInst(3)
	m := tell(impl.Entry{Net: impl.Net{Addr: 0x0C000000, Len: 8}, Metric: 1})
	for _, m := range []impl.Rip{m, tell(), {Cmd: impl.CmAsk}} {
		for _, from := range append([]int64{0, 1, 0x0A000001, 0x09FFFFFF, 0x0A000100, by1, by2, topAddr, 1<<32 + by0, by0 - 1<<32}, wrongAddrs...) {
			holdInst(t, "by 0", impl.HearRip(r, 0, from, m), noInst(impl.ErrAddr))
		}
		for _, from := range append([]int64{0, 1, 0x0A000101, by0, by2, 0x0A000001}, wrongAddrs...) {
			holdInst(t, "by 1", impl.HearRip(r, 1, from, m), noInst(impl.ErrAddr))
		}
		for iface, from := range []int64{by0, by1, by2} {
			if got := impl.HearRip(r, int64(iface), from, m); got.Code != impl.OK {
				t.Errorf("from a neighbour by %d: got %d", iface, got.Code)
			}
		}
	}
	for _, n := range []impl.Net{{}, {Len: 8}, {Len: 31}} {
		for _, own := range []int64{0, 1} {
			wide := impl.InstNew([]impl.Iface{{Addr: own, Net: n, Cost: 1}}).Inst
			holdInst(t, "from 0", impl.HearRip(wide, 0, 0, m), noInst(impl.ErrAddr))
			holdInst(t, "from itself", impl.HearRip(wide, 0, own, m), noInst(impl.ErrAddr))
			if got := impl.Near(wide, 0, 0); got != (own == 1) {
				t.Errorf("Near of 0 with %d in %+v: got %v", own, n, got)
			}
		}
	}
}

// TestHearRipFaultsInOrder: the first one of those named is told, whatever else is wrong.
func TestHearRipFaultsInOrder(t *testing.T) {
	right := someInst(2)
	wrong := right
	wrong.Now = -1
	down := withDown(right, 1)
	good, bad := someRip(2), impl.Rip{Cmd: 3}
	for _, x := range []struct {
		what  string
		r     impl.Inst
		iface int64
		from  int64
		m     impl.Rip
		want  int64
	}{
		{"all wrong", wrong, 2, 5, bad, impl.ErrForm},
		{"r, and no Iface", wrong, 2, by1, good, impl.ErrForm},
		{"r, and from", wrong, 1, 5, good, impl.ErrForm},
		{"m alone", right, 1, by1, bad, impl.ErrForm},
		{"m, and no Iface", right, 2, by1, bad, impl.ErrForm},
		{"m, and an Iface below 0", right, -1, by1, bad, impl.ErrForm},
		{"m, and down", down, 1, by1, bad, impl.ErrForm},
		{"m, and from", right, 1, 5, bad, impl.ErrForm},
		{"no Iface", right, 2, by1, good, impl.ErrNone},
		{"no Iface, and from", right, 2, 0, good, impl.ErrNone},
		{"down", down, 1, by1, good, impl.ErrState},
		{"down, and from", down, 1, 5, good, impl.ErrState},
		{"down, and from 0", down, 1, 0, good, impl.ErrState},
		{"down, and a question", down, 1, by1, impl.Rip{Cmd: 1}, impl.ErrState},
		{"from", right, 1, 5, good, impl.ErrAddr},
		{"from, and a question", right, 1, 5, impl.Rip{Cmd: 1}, impl.ErrAddr},
		{"another one down", down, 0, by1, good, impl.ErrAddr},
	} {
		holdInst(t, x.what, impl.HearRip(x.r, x.iface, x.from, x.m), noInst(x.want))
	}
	for _, iface := range append([]int64{2}, wrongPlaces...) {
		for _, m := range []impl.Rip{good, {Cmd: impl.CmAsk}, tell()} {
			holdInst(t, "no such Iface", impl.HearRip(right, iface, by0, m), noInst(impl.ErrNone))
		}
	}
	for many := range mostIfaces + 1 {
		holdInst(t, "one behind the last", impl.HearRip(someInst(many), int64(many), by0, good), noInst(impl.ErrNone))
	}
}

func TestHearRipWrongRips(t *testing.T) {
	r := someInst(2)
	for _, cmd := range wrongCmds {
		m := someRip(2)
		m.Cmd = cmd
		holdInst(t, "Cmd", impl.HearRip(r, 1, by1, m), noInst(impl.ErrForm))
	}
	for _, e := range wrongEntries() {
		for _, cmd := range edgeCmds {
			for at := range 3 {
				m := someRip(3)
				m.Cmd, m.Entries[at] = cmd, e
				holdInst(t, "an Entry", impl.HearRip(r, 1, by1, m), noInst(impl.ErrForm))
			}
		}
	}
	for _, many := range []int{9, 10, 256, impl.MaxList, impl.MaxList + 1} {
		m := tell(slices.Repeat([]impl.Entry{{Metric: 1}}, many)...)
		holdInst(t, "too many", impl.HearRip(r, 1, by1, m), noInst(impl.ErrForm))
	}
	eight := tell(slices.Repeat([]impl.Entry{{Metric: 1}}, 8)...)
	holdInst(t, "as many as may be", impl.HearRip(r, 1, by1, eight), plainHear(r, 1, by1, eight))
}

func TestHearRipAny(t *testing.T) {
	r := rand.New(rand.NewSource(70))
	codes := map[int64]int{}
	for range 20000 {
		x := anyInst(r)
		iface, from, m := anyPlace(r, x.Ifaces), anyFrom(r, x.Ifaces), anyTold(r, x.Ifaces)
		got := impl.HearRip(x, iface, from, m)
		holdInst(t, "heard", got, plainHear(x, iface, from, m))
		codes[got.Code]++
		if got.Code == impl.OK && (!slices.Equal(got.Inst.Ifaces, x.Ifaces) || got.Inst.Now != x.Now) {
			t.Fatalf("HearRip(%+v, %d, %d, %+v): more than the Rib is changed: %+v", x, iface, from, m, got)
		}
	}
	for _, code := range []int64{impl.OK, impl.ErrNone, impl.ErrState, impl.ErrAddr} {
		if codes[code] < 100 {
			t.Errorf("the code %d: only %d times", code, codes[code])
		}
	}
}

func TestStepOneByOne(t *testing.T) {
	n := netsOfAll()
	own := impl.Route{Net: n[0], Metric: 1, Iface: 0}
	live := func(at int, until int64) impl.Route {
		return impl.Route{Net: n[at], Metric: 2, Next: 9, Iface: 1, Tag: 7, Until: until}
	}
	gone := func(at int, bin int64) impl.Route {
		return impl.Route{Net: n[at], Metric: 16, Next: 8, Iface: 2, Tag: 6, Bin: bin, Changed: true}
	}
	lost := func(at int) impl.Route {
		return impl.Route{Net: n[at], Metric: 16, Next: 9, Iface: 1, Tag: 7, Bin: 25, Changed: true}
	}
	r := withDown(someInst(2), 1)
	r.Rib = impl.Rib{Routes: []impl.Route{own, live(1, 20), live(2, 21), live(3, 22), gone(4, 20), gone(5, 21), gone(6, 22)}}
	want := r
	want.Now = 21
	want.Rib = impl.Rib{Routes: []impl.Route{own, lost(1), lost(2), live(3, 22), gone(6, 22)}}
	holdInst(t, "all kinds", impl.Step(r), instOf(want))
	holdInst(t, "nothing", impl.Step(impl.Inst{}), instOf(impl.Inst{Now: 1}))
}

func TestStepLimits(t *testing.T) {
	for many := range mostIfaces + 1 {
		r := someInst(many)
		for _, now := range edgeSteps {
			r.Now = now
			holdInst(t, "step", impl.Step(r), plainStep(r))
		}
		r.Now = mostStep
		holdInst(t, "the last one", impl.Step(r), noInst(impl.ErrFull))
		r.Now = mostStep - 1
		got := impl.Step(r)
		if got.Code != impl.OK || got.Inst.Now != mostStep {
			t.Errorf("one below the last: got %+v", got)
		}
		holdInst(t, "and no more", impl.Step(got.Inst), noInst(impl.ErrFull))
		for _, now := range wrongSteps {
			r.Now = now
			holdInst(t, "no time", impl.Step(r), noInst(impl.ErrForm))
		}
		r.Now = mostStep
		r.Rib = someRib(mostRoutes + 1)
		holdInst(t, "not right at the last one", impl.Step(r), noInst(impl.ErrForm))
	}
}

// TestStepsAge: what is told once is of use, then out of reach, and goes, by steps alone.
func TestStepsAge(t *testing.T) {
	n := impl.Net{Addr: 0x0B000000, Len: 8}
	for _, start := range []int64{0, 1, 77, mostStep - 12} {
		r := impl.InstNew(someIfaces(2)).Inst
		r.Now = start
		r = impl.HearRip(r, 1, by1, tell(impl.Entry{Net: n, Metric: 3})).Inst
		for past := int64(1); past <= 12; past++ {
			r = impl.Step(r).Inst
			want := int64(5)
			if past >= 6 {
				want = 16
			}
			if past >= 10 {
				want = 0
			}
			if got := impl.RibFind(r.Rib, n).Metric; got != want || r.Now != start+past {
				t.Errorf("%d steps behind %d: got %d at %d, want %d", past, start, got, r.Now, want)
			}
		}
	}
}

func TestDownOneByOne(t *testing.T) {
	r := mixedInst()
	x := r.Rib.Routes
	lost := func(x impl.Route) impl.Route {
		x.Metric, x.Until, x.Bin, x.Changed = 16, 0, 24, true
		return x
	}
	want := withDown(r, 0)
	want.Rib = ribOf(x[1], lost(x[2]), x[3], x[4], x[5], x[6], x[7]).Rib
	holdInst(t, "the first", impl.Down(r, 0), instOf(want))
	want = withDown(r, 1)
	want.Rib = ribOf(x[0], x[2], lost(x[3]), x[4], x[5], x[6], x[7]).Rib
	holdInst(t, "the last", impl.Down(r, 1), instOf(want))
	bare := impl.Inst{Ifaces: allUp(someIfaces(1))}
	holdInst(t, "without Routes", impl.Down(bare, 0), instOf(withDown(bare, 0)))
}

func TestUpOneByOne(t *testing.T) {
	r := withDown(mixedInst(), 1)
	r.Rib = impl.Rib{Routes: r.Rib.Routes[:5]}
	own := impl.Route{Net: r.Ifaces[1].Net, Metric: 1, Iface: 1, Changed: true}
	want := mixedInst()
	want.Rib = plainWith(r.Rib, own)
	holdInst(t, "the last", impl.Up(r, 1), instOf(want))
	learned := r
	learned.Rib = plainWith(r.Rib, impl.Route{Net: own.Net, Metric: 3, Next: 9, Iface: 0, Tag: 7, Until: 30})
	holdInst(t, "in the place of what was learned", impl.Up(learned, 1), instOf(want))
	learned.Rib = plainWith(r.Rib, impl.Route{Net: own.Net, Metric: 16, Next: 9, Iface: 1, Tag: 7, Bin: 30})
	holdInst(t, "in the place of what is out of reach", impl.Up(learned, 1), instOf(want))
	learned.Rib = plainWith(r.Rib, impl.Route{Net: own.Net, Metric: 15, Iface: 3, Tag: 9})
	holdInst(t, "in the place of another's own", impl.Up(learned, 1), instOf(want))
	bare := impl.Inst{Ifaces: someIfaces(1)}
	holdInst(t, "without Routes", impl.Up(bare, 0), impl.InstNew(someIfaces(1)))
}

func TestUpInAFullTable(t *testing.T) {
	for many := 1; many <= mostIfaces; many++ {
		for at := range many {
			r := withDown(someInst(many), at)
			r.Rib = someRib(mostRoutes)
			holdInst(t, "no room", impl.Up(r, int64(at)), noInst(impl.ErrFull))
			room := r
			room.Rib = someRib(mostRoutes - 1)
			got := impl.Up(room, int64(at))
			holdInst(t, "room for one", got, plainUp(room, int64(at)))
			if got.Code != impl.OK || len(got.Inst.Rib.Routes) != mostRoutes {
				t.Errorf("room for one: got %+v", got)
			}
			for place := range mostRoutes {
				there := r
				l := slices.Delete(slices.Clone(someRib(mostRoutes).Routes), place, place+1)
				there.Rib = plainWith(impl.Rib{Routes: l}, liveRoute(r.Ifaces[at].Net))
				got := impl.Up(there, int64(at))
				holdInst(t, "its Net is there", got, plainUp(there, int64(at)))
				if plainRib(there.Rib) != (got.Code == impl.OK) {
					t.Errorf("its Net is there: got %+v", got)
				}
			}
		}
	}
}

func TestDownAndUpFaults(t *testing.T) {
	for many := range mostIfaces + 1 {
		r := someInst(many)
		for _, iface := range append(wrongPlaces, int64(many), int64(many)+1) {
			holdInst(t, "no such one, down", impl.Down(r, iface), noInst(impl.ErrNone))
			holdInst(t, "no such one, up", impl.Up(r, iface), noInst(impl.ErrNone))
		}
		full := r
		full.Rib = someRib(mostRoutes)
		for at := range many {
			iface := int64(at)
			holdInst(t, "up, and up", impl.Up(r, iface), noInst(impl.ErrState))
			holdInst(t, "up, and up, full", impl.Up(full, iface), noInst(impl.ErrState))
			holdInst(t, "down, and down", impl.Down(withDown(r, at), iface), noInst(impl.ErrState))
			holdInst(t, "down", impl.Down(r, iface), plainDown(r, iface))
			holdInst(t, "up", impl.Up(withDown(r, at), iface), plainUp(withDown(r, at), iface))
			for other := range many {
				if other != at {
					holdInst(t, "another one is down", impl.Up(withDown(r, other), iface), noInst(impl.ErrState))
					holdInst(t, "another one is down", impl.Down(withDown(r, other), iface), plainDown(withDown(r, other), iface))
				}
			}
		}
	}
}

// TestP11OwnNetAsAhead: down and up again, at once or some steps later, whatever was heard in between.
func TestP11OwnNetAsAhead(t *testing.T) {
	r := rand.New(rand.NewSource(71))
	for range 3000 {
		first := impl.InstNew(anyIfaces(r, 1+r.Intn(mostIfaces))).Inst
		first.Now = min(anyStep(r), mostStep-30)
		iface := int64(r.Intn(len(first.Ifaces)))
		n := first.Ifaces[iface].Net
		own := impl.RibFind(first.Rib, n)
		x := impl.Down(first, iface)
		if x.Code != impl.OK || impl.RibFind(x.Inst.Rib, n) != (impl.Route{}) {
			t.Fatalf("Down(%+v, %d): got %+v", first, iface, x)
		}
		for range r.Intn(20) {
			x.Inst = impl.Step(x.Inst).Inst
			heard := impl.HearRip(x.Inst, anyPlace(r, first.Ifaces), anyFrom(r, first.Ifaces), anyTold(r, first.Ifaces))
			if heard.Code == impl.OK {
				x.Inst = heard.Inst
			}
		}
		full := len(x.Inst.Rib.Routes) == mostRoutes && impl.RibFind(x.Inst.Rib, n) == impl.Route{}
		up := impl.Up(x.Inst, iface)
		holdInst(t, "up", up, plainUp(x.Inst, iface))
		if full {
			holdInst(t, "full", up, noInst(impl.ErrFull))
			continue
		}
		if impl.RibFind(up.Inst.Rib, n) != own || !slices.Equal(up.Inst.Ifaces, first.Ifaces) {
			t.Fatalf("Up(%+v, %d): got %+v, want its own %+v", x.Inst, iface, up, own)
		}
	}
}

// TestP11AtOnce: a router that has heard nothing is as it was.
func TestP11AtOnce(t *testing.T) {
	for many := 1; many <= mostIfaces; many++ {
		first := impl.InstNew(someIfaces(many))
		for iface := range int64(many) {
			down := impl.Down(first.Inst, iface)
			holdInst(t, "down", down, plainDown(first.Inst, iface))
			holdInst(t, "as ahead", impl.Up(down.Inst, iface), first)
			if best := impl.RibBest(down.Inst.Rib, first.Inst.Ifaces[iface].Addr); best.Iface == iface && best != (impl.Route{}) {
				t.Errorf("down: still by it: %+v", best)
			}
			quiet := impl.Settle(first.Inst).Inst
			back := impl.Up(impl.Down(quiet, iface).Inst, iface).Inst
			if got := impl.Offer(back, (iface+1)%int64(many), false); many > 1 && !slices.Equal(got, []impl.Entry{{Net: first.Inst.Ifaces[iface].Net, Metric: 1}}) {
				t.Errorf("come up again, it is a change: got %+v", got)
			}
		}
	}
}

func TestSettle(t *testing.T) {
	for marks := range 1 << mostRoutes {
		r := mixedInst()
		for i := range r.Rib.Routes {
			r.Rib.Routes[i].Changed = marks>>i&1 == 1
		}
		got := impl.Settle(r)
		holdInst(t, "settled", got, plainSettle(r))
		holdOffer(t, "nothing to tell", impl.Offer(got.Inst, 0, false), nil)
		holdOffer(t, "all to tell", impl.Offer(got.Inst, 0, true), impl.Offer(r, 0, true))
	}
	for many := range mostIfaces + 1 {
		for at := range many {
			r := withDown(someInst(many), at)
			holdInst(t, "down", impl.Settle(r), plainSettle(r))
		}
	}
	holdInst(t, "nothing", impl.Settle(impl.Inst{}), instOf(impl.Inst{}))
	last := someInst(2)
	last.Now = mostStep
	holdInst(t, "at the last time", impl.Settle(last), plainSettle(last))
}

// TestInstsAny asks all calls of all kinds of right routers.
func TestInstsAny(t *testing.T) {
	r := rand.New(rand.NewSource(72))
	for range 10000 {
		x := anyInst(r)
		holdRouter(t, "any", x, anyPlace(r, x.Ifaces), anyFrom(r, x.Ifaces), anyTold(r, x.Ifaces))
	}
}

// TestInstsInARow makes each router out of the one ahead of it: they stay right, and as the plain ones.
func TestInstsInARow(t *testing.T) {
	r := rand.New(rand.NewSource(73))
	for range 200 {
		x := impl.InstNew(anyIfaces(r, 1+r.Intn(mostIfaces))).Inst
		for range 60 {
			iface, from, m := anyPlace(r, x.Ifaces), anyFrom(r, x.Ifaces), anyTold(r, x.Ifaces)
			holdRouter(t, "in a row", x, iface, from, m)
			var out impl.InstOut
			switch r.Intn(10) {
			case 0:
				out = impl.Down(x, iface)
			case 1, 2:
				out = impl.Up(x, iface)
			case 3:
				out = impl.Settle(x)
			case 4, 5, 6:
				out = impl.Step(x)
			default:
				out = impl.HearRip(x, iface, from, m)
			}
			if out.Code == impl.OK {
				x = out.Inst
			}
		}
	}
}

// spareInst has room behind its lists, with something in it that is nobody's to write into.
func spareInst(r impl.Inst) (impl.Inst, []impl.Iface, []impl.Route) {
	ifaces := append(slices.Clone(r.Ifaces), impl.Iface{Cost: 71}, impl.Iface{Cost: 72})
	rib, routes := spare(r.Rib)
	return impl.Inst{Ifaces: ifaces[:len(r.Ifaces)], Rib: rib, Now: r.Now}, ifaces, routes
}

// scribble writes over all that was handed out.
func scribble(r impl.Inst) {
	for i := range r.Ifaces {
		r.Ifaces[i] = impl.Iface{Cost: 77}
	}
	for i := range r.Rib.Routes {
		r.Rib.Routes[i] = impl.Route{Tag: 77}
	}
	r.Ifaces = append(r.Ifaces, impl.Iface{Cost: 78})
	r.Rib.Routes = append(r.Rib.Routes, impl.Route{Tag: 78})
}

// TestInstKeepsNothing: no call writes into a router, and none hands a piece of it out.
func TestInstKeepsNothing(t *testing.T) {
	full := tell(slices.Repeat([]impl.Entry{{Net: impl.Net{Addr: topAddr, Len: 32}, Metric: 1}}, 3)...)
	calls := []func(impl.Inst) impl.InstOut{
		func(r impl.Inst) impl.InstOut { return impl.InstNew(r.Ifaces) },
		func(r impl.Inst) impl.InstOut { return impl.HearRip(r, 0, by0, someRip(8)) },
		func(r impl.Inst) impl.InstOut { return impl.HearRip(r, 1, by1, full) },
		func(r impl.Inst) impl.InstOut { return impl.HearRip(r, 1, by1, tell()) },
		func(r impl.Inst) impl.InstOut { return impl.HearRip(r, 1, by1, impl.Rip{Cmd: impl.CmAsk}) },
		func(r impl.Inst) impl.InstOut { return impl.HearRip(r, 1, by0, full) },
		func(r impl.Inst) impl.InstOut { return impl.Step(r) },
		func(r impl.Inst) impl.InstOut { r.Now = 500; return impl.Step(r) },
		func(r impl.Inst) impl.InstOut { return impl.Down(r, 0) },
		func(r impl.Inst) impl.InstOut { return impl.Down(r, 1) },
		func(r impl.Inst) impl.InstOut { return impl.Up(r, 0) },
		func(r impl.Inst) impl.InstOut { return impl.Up(r, 1) },
		func(r impl.Inst) impl.InstOut { return impl.Up(r, 2) },
		func(r impl.Inst) impl.InstOut { return impl.Settle(r) },
		func(r impl.Inst) impl.InstOut { impl.Offer(r, 0, true); impl.Near(r, 0, by0); return impl.InstOut{} },
	}
	for size := range mostRoutes + 1 {
		for many := range mostIfaces + 1 {
			for i, call := range calls {
				first := someInst(many)
				if many > 1 && size%2 == 0 {
					first = withDown(first, 1)
				}
				first.Rib = someRib(size)
				r, ifaces, routes := spareInst(first)
				wereIfaces, wereRoutes := slices.Clone(ifaces), slices.Clone(routes)
				got := call(r)
				kept := impl.InstOut{Inst: impl.Inst{Ifaces: slices.Clone(got.Inst.Ifaces), Rib: impl.Rib{Routes: slices.Clone(got.Inst.Rib.Routes)}, Now: got.Inst.Now}, Code: got.Code}
				scribble(got.Inst)
				if !slices.Equal(ifaces, wereIfaces) || !slices.Equal(routes, wereRoutes) {
					t.Errorf("call %d of %d Ifaces and %d Routes: what was handed in is changed", i, many, size)
				}
				holdInst(t, "again", call(r), kept)
			}
		}
	}
}

// TestHearRipKeepsTheRip: neither its Entries nor the room behind them are written into.
func TestHearRipKeepsTheRip(t *testing.T) {
	r := someInst(3)
	for _, cmd := range edgeCmds {
		for many := range 9 {
			whole := append(someRip(many).Entries, impl.Entry{Tag: 1}, impl.Entry{Tag: 2})
			were := slices.Clone(whole)
			impl.HearRip(r, 1, by1, impl.Rip{Cmd: cmd, Entries: whole[:many]})
			if !slices.Equal(whole, were) {
				t.Errorf("%d Entries: changed: %+v", many, whole)
			}
		}
	}
	l := impl.Offer(r, 0, true)
	for i := range l {
		l[i] = impl.Entry{Tag: 77}
	}
	holdOffer(t, "offered again", impl.Offer(r, 0, true), plainOffer(r, 0, true))
}
