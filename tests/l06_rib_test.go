package tests

import (
	"cmp"
	"math"
	"math/rand"
	"slices"
	"testing"

	"loop.example/g00634/impl"
)

const (
	mostRoutes = 8
	mostNow    = impl.MaxTime - 100
)

var (
	edgeIfaces  = []int64{0, 1, 2, 3}
	wrongIfaces = []int64{-1, -3, 4, 5, 256, 1 << 32, 1<<32 + 1, math.MaxInt64, math.MinInt64}
	edgeNows    = []int64{0, 1, 500, mostNow - 1, mostNow}
	wrongNows   = []int64{-1, -100, mostNow + 1, mostNow + 100, impl.MaxTime + 1, 1 << 32, math.MaxInt64, math.MinInt64}
)

// netsOfAll lie within each other, and beside each other; rising.
func netsOfAll() []impl.Net {
	return []impl.Net{
		{Addr: 0, Len: 0},
		{Addr: 0, Len: 32},
		{Addr: 0x0A000000, Len: 8},
		{Addr: 0x0A000000, Len: 16},
		{Addr: 0x0A010000, Len: 16},
		{Addr: 0x0A010000, Len: 24},
		{Addr: 0x0A010100, Len: 24},
		{Addr: 0x0A010101, Len: 32},
		{Addr: 0x0A010102, Len: 31},
		{Addr: 0x80000000, Len: 1},
		{Addr: 0xC0A80000, Len: 16},
		{Addr: topAddr, Len: 32},
	}
}

// ownRoute, liveRoute and goneRoute are the three kinds of right ones.
func ownRoute(n impl.Net) impl.Route {
	return impl.Route{Net: n, Metric: 1, Iface: 2}
}

func liveRoute(n impl.Net) impl.Route {
	return impl.Route{Net: n, Metric: 3, Next: 9, Iface: 1, Tag: 7, Until: 500}
}

func goneRoute(n impl.Net) impl.Route {
	return impl.Route{Net: n, Metric: 16, Next: 9, Iface: 1, Tag: 7, Bin: 500}
}

// someRib is right, of so many Routes of all three kinds.
func someRib(many int) impl.Rib {
	kinds := []func(impl.Net) impl.Route{liveRoute, ownRoute, goneRoute}
	var t impl.Rib
	for i, n := range netsOfAll()[:many] {
		r := kinds[i%3](n)
		r.Changed = i%2 == 0
		t.Routes = append(t.Routes, r)
	}
	return t
}

// anyRoute is right; few values are as often alike as not. Its times lie about now.
func anyRoute(r *rand.Rand, n impl.Net, now int64) impl.Route {
	of := func(l ...int64) int64 { return l[r.Intn(len(l))] }
	out := impl.Route{
		Net:     n,
		Metric:  of(1, 2, 3, 15),
		Next:    of(1, 9, topAddr),
		Iface:   of(edgeIfaces...),
		Tag:     of(0, 7, 65535),
		Changed: r.Intn(2) == 0,
	}
	at := max(1, now+of(-2, -1, 0, 1, 2, 6, 90))
	switch r.Intn(4) {
	case 0:
		out.Next = 0
	case 1:
		out.Metric, out.Bin = 16, at
	default:
		out.Until = at
	}
	return out
}

// anyRib is right, of so many.
func anyRib(r *rand.Rand, many int, now int64) impl.Rib {
	nets := netsOfAll()
	places := r.Perm(len(nets))[:many]
	slices.Sort(places)
	var t impl.Rib
	for _, at := range places {
		t.Routes = append(t.Routes, anyRoute(r, nets[at], now))
	}
	return t
}

// anyNow is often at an edge.
func anyNow(r *rand.Rand) int64 {
	if r.Intn(2) == 0 {
		return edgeNows[r.Intn(len(edgeNows))]
	}
	return r.Int63n(mostNow + 1)
}

func isOneOf(n int64, from int64, to int64) bool {
	return n >= from && n <= to
}

// plainNetRight looks at a Net bit by bit.
func plainNetRight(n impl.Net) bool {
	if !isOneOf(n.Addr, 0, topAddr) || !isOneOf(n.Len, 0, 32) {
		return false
	}
	for bit := n.Len; bit < 32; bit++ {
		if n.Addr>>(31-bit)&1 != 0 {
			return false
		}
	}
	return true
}

// plainSaid looks at all that a neighbour may have said, and the Iface.
func plainSaid(r impl.Route) bool {
	return plainNetRight(r.Net) && isOneOf(r.Metric, 1, 16) && isOneOf(r.Next, 0, topAddr) && isOneOf(r.Iface, 0, 3) && isOneOf(r.Tag, 0, 65535)
}

// plainRoute asks for one of the three kinds.
func plainRoute(r impl.Route) bool {
	own := r.Next == 0 && r.Metric != 16 && r.Until == 0 && r.Bin == 0
	live := r.Next != 0 && r.Metric != 16 && isOneOf(r.Until, 1, impl.MaxTime) && r.Bin == 0
	gone := r.Next != 0 && r.Metric == 16 && isOneOf(r.Bin, 1, impl.MaxTime) && r.Until == 0
	return plainSaid(r) && (own || live || gone)
}

// netCmp is the order of a table.
func netCmp(a impl.Net, b impl.Net) int {
	return cmp.Or(cmp.Compare(a.Addr, b.Addr), cmp.Compare(a.Len, b.Len))
}

func plainRib(t impl.Rib) bool {
	for i, r := range t.Routes {
		for _, later := range t.Routes[i+1:] {
			if netCmp(r.Net, later.Net) >= 0 {
				return false
			}
		}
		if !plainRoute(r) {
			return false
		}
	}
	return len(t.Routes) <= mostRoutes
}

// plainPlace is where the Route of a Net stands; -1 without one.
func plainPlace(t impl.Rib, n impl.Net) int {
	return slices.IndexFunc(t.Routes, func(r impl.Route) bool { return r.Net == n })
}

// plainWith has one Route more, in its place.
func plainWith(t impl.Rib, r impl.Route) impl.Rib {
	l := append(slices.Clone(t.Routes), r)
	slices.SortFunc(l, func(a, b impl.Route) int { return netCmp(a.Net, b.Net) })
	return impl.Rib{Routes: l}
}

// plainAt has another Route at that place.
func plainAt(t impl.Rib, at int, r impl.Route) impl.Rib {
	l := slices.Clone(t.Routes)
	l[at] = r
	return impl.Rib{Routes: l}
}

func plainBest(t impl.Rib, a int64) impl.Route {
	var best impl.Route
	if !plainRib(t) || !isOneOf(a, 0, topAddr) {
		return best
	}
	for length := int64(32); length >= 0; length-- {
		for _, r := range t.Routes {
			if r.Net.Len == length && r.Metric != 16 && firstBits(r.Net.Addr, a, length) {
				return r
			}
		}
	}
	return best
}

func plainOwn(t impl.Rib, n impl.Net, iface int64) impl.RibOut {
	if !plainRib(t) || !plainNetRight(n) || !isOneOf(iface, 0, 3) {
		return impl.RibOut{Code: impl.ErrForm}
	}
	own := impl.Route{Net: n, Metric: 1, Iface: iface, Changed: true}
	if at := plainPlace(t, n); at >= 0 {
		return impl.RibOut{Rib: plainAt(t, at, own)}
	}
	if len(t.Routes) == mostRoutes {
		return impl.RibOut{Code: impl.ErrFull}
	}
	return impl.RibOut{Rib: plainWith(t, own)}
}

// plainLost is a Route that is of Infinity from now on.
func plainLost(r impl.Route, now int64) impl.Route {
	return impl.Route{Net: r.Net, Metric: 16, Next: r.Next, Iface: r.Iface, Tag: r.Tag, Bin: now + 4, Changed: true}
}

func plainLearn(t impl.Rib, r impl.Route, now int64) impl.RibOut {
	if !plainRib(t) || !plainSaid(r) || r.Next == 0 || !isOneOf(now, 0, mostNow) {
		return impl.RibOut{Code: impl.ErrForm}
	}
	told := impl.Route{Net: r.Net, Metric: r.Metric, Next: r.Next, Iface: r.Iface, Tag: r.Tag, Until: now + 6, Changed: true}
	at := plainPlace(t, r.Net)
	if at < 0 {
		if r.Metric == 16 {
			return impl.RibOut{Rib: t}
		}
		if len(t.Routes) == mostRoutes {
			return impl.RibOut{Code: impl.ErrFull}
		}
		return impl.RibOut{Rib: plainWith(t, told)}
	}
	old := t.Routes[at]
	same := old.Next == r.Next && old.Iface == r.Iface
	if old.Next == 0 || !same && r.Metric >= old.Metric || same && r.Metric == 16 && old.Metric == 16 {
		return impl.RibOut{Rib: t}
	}
	if same && r.Metric == 16 {
		return impl.RibOut{Rib: plainAt(t, at, plainLost(old, now))}
	}
	if same && old.Metric == r.Metric && old.Tag == r.Tag {
		told.Changed = old.Changed
	}
	return impl.RibOut{Rib: plainAt(t, at, told)}
}

func plainTick(t impl.Rib, now int64) impl.RibOut {
	if !plainRib(t) || !isOneOf(now, 0, mostNow) {
		return impl.RibOut{Code: impl.ErrForm}
	}
	var out impl.RibOut
	for _, r := range t.Routes {
		if r.Until != 0 && r.Until <= now {
			out.Rib.Routes = append(out.Rib.Routes, plainLost(r, now))
		} else if r.Bin == 0 || r.Bin > now {
			out.Rib.Routes = append(out.Rib.Routes, r)
		}
	}
	return out
}

func plainLose(t impl.Rib, iface int64, now int64) impl.RibOut {
	if !plainRib(t) || !isOneOf(now, 0, mostNow) {
		return impl.RibOut{Code: impl.ErrForm}
	}
	var out impl.RibOut
	for _, r := range t.Routes {
		if r.Iface != iface || r.Metric == 16 {
			out.Rib.Routes = append(out.Rib.Routes, r)
		} else if r.Next != 0 {
			out.Rib.Routes = append(out.Rib.Routes, plainLost(r, now))
		}
	}
	return out
}

func plainQuiet(t impl.Rib) impl.Rib {
	var out impl.Rib
	if !plainRib(t) {
		return out
	}
	for _, r := range t.Routes {
		r.Changed = false
		out.Routes = append(out.Routes, r)
	}
	return out
}

// holdRib takes an empty list and none as the same.
func holdRib(t *testing.T, what string, got impl.RibOut, want impl.RibOut) {
	t.Helper()
	if got.Code != want.Code || !slices.Equal(got.Rib.Routes, want.Rib.Routes) {
		t.Errorf("%s:\n got %+v\nwant %+v", what, got, want)
	}
	if got.Code == impl.OK && !plainRib(got.Rib) {
		t.Errorf("%s: what is told is not right: %+v", what, got.Rib)
	}
}

// fault is a code, and nothing beside it.
func fault(code int64) impl.RibOut {
	return impl.RibOut{Code: code}
}

// ribOf is what is told of so many Routes.
func ribOf(l ...impl.Route) impl.RibOut {
	return impl.RibOut{Rib: impl.Rib{Routes: l}}
}

// holdAll asks each call of a table what the plain ones tell of it.
func holdAll(t *testing.T, what string, l impl.Rib, told impl.Route, a int64, now int64) {
	t.Helper()
	if got, want := impl.RibRight(l), plainRib(l); got != want {
		t.Errorf("%s: RibRight(%+v): got %v", what, l, got)
	}
	var found impl.Route
	if at := plainPlace(l, told.Net); at >= 0 && plainRib(l) {
		found = l.Routes[at]
	}
	if got := impl.RibFind(l, told.Net); got != found {
		t.Errorf("%s: RibFind(%+v, %+v): got %+v, want %+v", what, l, told.Net, got, found)
	}
	if got, want := impl.RibBest(l, a), plainBest(l, a); got != want {
		t.Errorf("%s: RibBest(%+v, %d): got %+v, want %+v", what, l, a, got, want)
	}
	holdRib(t, what+": RibOwn", impl.RibOwn(l, told.Net, told.Iface), plainOwn(l, told.Net, told.Iface))
	holdRib(t, what+": RibLearn", impl.RibLearn(l, told, now), plainLearn(l, told, now))
	holdRib(t, what+": RibTick", impl.RibTick(l, now), plainTick(l, now))
	holdRib(t, what+": RibLose", impl.RibLose(l, told.Iface, now), plainLose(l, told.Iface, now))
	holdRib(t, what+": RibQuiet", impl.RibOut{Rib: impl.RibQuiet(l)}, impl.RibOut{Rib: plainQuiet(l)})
}

// timesOf are the times of a Route at their edges, right or not.
func timesOf() []int64 {
	return []int64{0, 1, impl.MaxTime, impl.MaxTime + 1, -1, math.MinInt64, math.MaxInt64}
}

// TestRouteRight goes through all edges of all fields together.
func TestRouteRight(t *testing.T) {
	nets := []impl.Net{{}, {Addr: 0x0A010000, Len: 16}, {Addr: topAddr, Len: 32}, {Addr: 1, Len: 0}, {Addr: 0x0A010000, Len: 15}, {Addr: 0, Len: 33}, {Addr: -1, Len: 32}}
	right := 0
	for _, n := range nets {
		for _, metric := range []int64{0, 1, 15, 16, 17} {
			for _, next := range []int64{0, 1, topAddr, -1, topAddr + 1} {
				for _, iface := range []int64{-1, 0, 3, 4} {
					for _, tag := range []int64{0, 65535, -1, 65536} {
						for _, until := range timesOf() {
							for _, bin := range timesOf() {
								r := impl.Route{Net: n, Metric: metric, Next: next, Iface: iface, Tag: tag, Until: until, Bin: bin, Changed: tag == 0}
								if got := impl.RouteRight(r); got != plainRoute(r) {
									t.Fatalf("RouteRight(%+v): got %v", r, got)
								}
								if plainRoute(r) {
									right++
								}
							}
						}
					}
				}
			}
		}
	}
	// 3 Nets, 2 Ifaces, 2 Tags; its own of 2 Metrics, and 2 Nexts of 3 Metrics with 2 times each.
	if want := 3 * 2 * 2 * (2 + 2*3*2); right != want {
		t.Errorf("right ones: got %d, want %d", right, want)
	}
}

// routeEdges are a field, its values at the edges, and those that may not be.
type routeEdges struct {
	put         func(*impl.Route, int64)
	edge, wrong []int64
}

func routeFields() []routeEdges {
	return []routeEdges{
		{func(r *impl.Route, n int64) { r.Metric = n }, []int64{1, 2, 14, 15}, wrongMetrics},
		{func(r *impl.Route, n int64) { r.Next = n }, edgeAddrs[1:], wrongAddrs},
		{func(r *impl.Route, n int64) { r.Iface = n }, edgeIfaces, wrongIfaces},
		{func(r *impl.Route, n int64) { r.Tag = n }, edgeWords, wrongWords},
	}
}

// wrongSaid have each one field that may not be, the times left out.
func wrongSaid() []impl.Route {
	n := netsOfAll()[4]
	out := []impl.Route{{}}
	for _, bad := range wrongNets() {
		out = append(out, liveRoute(bad))
	}
	for _, f := range routeFields() {
		for _, bad := range f.wrong {
			r := liveRoute(n)
			f.put(&r, bad)
			out = append(out, r)
		}
	}
	return out
}

// wrongTimes have each a time too much, too few, or one that may not be.
func wrongTimes() []impl.Route {
	var out []impl.Route
	for _, kind := range []func(impl.Net) impl.Route{ownRoute, liveRoute, goneRoute} {
		for _, until := range timesOf() {
			for _, bin := range timesOf() {
				r := kind(netsOfAll()[4])
				r.Until, r.Bin = until, bin
				if !plainRoute(r) {
					out = append(out, r)
				}
			}
		}
	}
	own := ownRoute(netsOfAll()[4])
	own.Metric = 16
	ownBin := own
	ownBin.Bin = 500
	return append(out, own, ownBin)
}

func TestRouteRightOneByOne(t *testing.T) {
	n := netsOfAll()[4]
	for _, r := range []impl.Route{ownRoute(n), liveRoute(n), goneRoute(n)} {
		if !impl.RouteRight(r) {
			t.Errorf("RouteRight(%+v): got false", r)
		}
		r.Changed = true
		if !impl.RouteRight(r) {
			t.Errorf("RouteRight(%+v): got false", r)
		}
	}
	for _, f := range routeFields() {
		for _, n := range f.edge {
			r := liveRoute(netsOfAll()[4])
			f.put(&r, n)
			if !impl.RouteRight(r) {
				t.Errorf("RouteRight(%+v): got false", r)
			}
		}
	}
	for _, r := range append(wrongSaid(), wrongTimes()...) {
		if impl.RouteRight(r) {
			t.Errorf("RouteRight(%+v): got true", r)
		}
	}
	for length := range int64(33) {
		if r := liveRoute(impl.NetOf(topAddr, length)); !impl.RouteRight(r) {
			t.Errorf("RouteRight(%+v): got false", r)
		}
	}
}

// holdWrong asks that no call takes such a table, whatever else is handed in.
func holdWrong(t *testing.T, what string, l impl.Rib) {
	t.Helper()
	if plainRib(l) {
		t.Fatalf("%s: the test asks for no right one, but it is: %+v", what, l)
	}
	told := []impl.Route{liveRoute(netsOfAll()[4]), goneRoute(netsOfAll()[11]), {}}
	for _, r := range l.Routes[:min(2, len(l.Routes))] {
		r.Next = 5
		told = append(told, r)
	}
	for _, r := range told {
		holdAll(t, what, l, r, 0x0A010101, 10)
	}
	holdAll(t, what, l, told[0], -1, -1)
}

func TestRibRight(t *testing.T) {
	for many := range mostRoutes + 1 {
		if l := someRib(many); !impl.RibRight(l) {
			t.Errorf("RibRight(%+v): got false", l)
		}
		holdAll(t, "some", someRib(many), liveRoute(netsOfAll()[2]), 0x0A010101, 10)
	}
	if !impl.RibRight(impl.Rib{Routes: []impl.Route{}}) {
		t.Errorf("RibRight of an empty list: got false")
	}
	for many := mostRoutes + 1; many <= len(netsOfAll()); many++ {
		holdWrong(t, "too many", someRib(many))
	}
	for _, many := range []int{256, impl.MaxList, impl.MaxList + 1} {
		var l impl.Rib
		for i := range int64(many) {
			l.Routes = append(l.Routes, liveRoute(impl.Net{Addr: i, Len: 32}))
		}
		holdWrong(t, "far too many", l)
	}
}

func TestRibRightInOrder(t *testing.T) {
	for many := 2; many <= mostRoutes; many++ {
		for a := range many {
			for b := range a {
				l := someRib(many)
				l.Routes[a], l.Routes[b] = l.Routes[b], l.Routes[a]
				holdWrong(t, "out of order", l)
				l = someRib(many)
				l.Routes[a].Net = l.Routes[b].Net
				holdWrong(t, "two of one Net", l)
				l.Routes[a] = l.Routes[b]
				holdWrong(t, "one twice", l)
			}
		}
		l := someRib(many)
		slices.Reverse(l.Routes)
		holdWrong(t, "turned round", l)
	}
	for _, lens := range [][2]int64{{16, 8}, {32, 0}, {1, 0}, {32, 31}, {8, 8}} {
		l := impl.Rib{Routes: []impl.Route{liveRoute(impl.Net{Len: lens[0]}), liveRoute(impl.Net{Len: lens[1]})}}
		holdWrong(t, "of one Addr, the longer first", l)
	}
}

func TestRibRightEachRoute(t *testing.T) {
	for _, bad := range append(wrongSaid(), wrongTimes()...) {
		holdWrong(t, "a wrong one alone", impl.Rib{Routes: []impl.Route{bad}})
		for _, many := range []int{2, 5, mostRoutes} {
			for at := range many {
				l := someRib(many)
				n := l.Routes[at].Net
				l.Routes[at] = bad
				if plainNetRight(bad.Net) {
					l.Routes[at].Net = n
				}
				if !plainRoute(l.Routes[at]) {
					holdWrong(t, "a wrong one", l)
				}
			}
		}
	}
}

func TestRibFind(t *testing.T) {
	for many := range mostRoutes + 1 {
		l := someRib(many)
		for i, n := range netsOfAll() {
			var want impl.Route
			if i < many {
				want = l.Routes[i]
			}
			if got := impl.RibFind(l, n); got != want {
				t.Errorf("RibFind(%+v) of %d: got %+v, want %+v", n, many, got, want)
			}
		}
		for _, n := range wrongNets() {
			if got := impl.RibFind(l, n); got != (impl.Route{}) {
				t.Errorf("RibFind(%+v) of %d: got %+v", n, many, got)
			}
		}
		for _, n := range []impl.Net{{Addr: 0x0A010000, Len: 17}, {Addr: 0x0A010000, Len: 15}, {Addr: 0x0A010100, Len: 32}, {Addr: 0, Len: 31}} {
			if got := impl.RibFind(l, n); got != (impl.Route{}) {
				t.Errorf("RibFind(%+v) of %d: got %+v", n, many, got)
			}
		}
	}
}

// TestP8LongestOfAllLengths has Nets of many lengths about one address: what is out of reach counts for nothing.
func TestP8LongestOfAllLengths(t *testing.T) {
	for _, a := range []int64{0, 1, 0x0A010101, topAddr} {
		for first := range int64(33 - mostRoutes + 1) {
			for gone := range 1 << mostRoutes {
				var l impl.Rib
				want := impl.Route{}
				for i := range int64(mostRoutes) {
					r := liveRoute(impl.NetOf(a, first+i))
					r.Metric = mostRoutes - i
					if gone>>i&1 == 1 {
						r = goneRoute(r.Net)
					} else {
						want = r
					}
					l.Routes = append(l.Routes, r)
				}
				if got := impl.RibBest(l, a); got != want {
					t.Fatalf("RibBest(%+v, %d): got %+v, want %+v", l, a, got, want)
				}
			}
		}
	}
}

func TestP8BestOneByOne(t *testing.T) {
	nets := netsOfAll()
	all, eight, sixteen, host := ownRoute(nets[0]), liveRoute(nets[2]), goneRoute(nets[4]), liveRoute(nets[7])
	eight.Metric = 15
	l := impl.Rib{Routes: []impl.Route{all, eight, sixteen, host}}
	for _, x := range []struct {
		a    int64
		want impl.Route
	}{
		{0x0A010101, host}, {0x0A010100, eight}, {0x0A010102, eight}, {0x0A000000, eight}, {0x0AFFFFFF, eight},
		{0x09FFFFFF, all}, {0x0B000000, all}, {0, all}, {topAddr, all},
	} {
		if got := impl.RibBest(l, x.a); got != x.want {
			t.Errorf("RibBest(%x): got %+v, want %+v", x.a, got, x.want)
		}
	}
	for _, a := range wrongAddrs {
		if got := impl.RibBest(l, a); got != (impl.Route{}) {
			t.Errorf("RibBest(%d): got %+v", a, got)
		}
	}
	if got := impl.RibBest(impl.Rib{Routes: l.Routes[1:]}, 5); got != (impl.Route{}) {
		t.Errorf("RibBest of what no Net covers: got %+v", got)
	}
	if got := impl.RibBest(impl.Rib{Routes: []impl.Route{sixteen}}, 0x0A010101); got != (impl.Route{}) {
		t.Errorf("RibBest of what is out of reach: got %+v", got)
	}
	if got := impl.RibBest(impl.Rib{}, 0); got != (impl.Route{}) {
		t.Errorf("RibBest of nothing: got %+v", got)
	}
}

func TestP8LongestIsBest(t *testing.T) {
	r := rand.New(rand.NewSource(61))
	for range 3000 {
		l := anyRib(r, r.Intn(mostRoutes+1), 500)
		addrs := append([]int64{0x0A010101, 0x0A010102, 0x0A010103, 0x0A000001, 0x80000000, 0xC0A80001, r.Int63n(topAddr + 1)}, edgeAddrs...)
		for _, a := range addrs {
			got := impl.RibBest(l, a)
			if got != plainBest(l, a) {
				t.Fatalf("RibBest(%+v, %d): got %+v, want %+v", l, a, got, plainBest(l, a))
			}
			for _, x := range l.Routes {
				if x.Metric < impl.Infinity && impl.Covers(x.Net, a) && x.Net.Len > got.Net.Len {
					t.Fatalf("RibBest(%+v, %d): %+v is longer than %+v", l, a, x, got)
				}
			}
		}
	}
}

func TestRibOwnOneByOne(t *testing.T) {
	nets := netsOfAll()
	own := impl.Route{Net: nets[4], Metric: 1, Iface: 3, Changed: true}
	for _, old := range []impl.Route{ownRoute(nets[4]), liveRoute(nets[4]), goneRoute(nets[4])} {
		ahead, behind := liveRoute(nets[2]), goneRoute(nets[6])
		holdRib(t, "in its place", impl.RibOwn(impl.Rib{Routes: []impl.Route{ahead, old, behind}}, nets[4], 3), ribOf(ahead, own, behind))
	}
	holdRib(t, "alone", impl.RibOwn(impl.Rib{}, nets[4], 3), ribOf(own))
	for many := range mostRoutes + 1 {
		l := someRib(many)
		for _, n := range nets {
			for _, iface := range edgeIfaces {
				holdRib(t, "edges", impl.RibOwn(l, n, iface), plainOwn(l, n, iface))
			}
			for _, iface := range wrongIfaces {
				holdRib(t, "a wrong Iface", impl.RibOwn(l, n, iface), fault(impl.ErrForm))
			}
		}
		for _, n := range wrongNets() {
			holdRib(t, "a wrong Net", impl.RibOwn(l, n, 0), fault(impl.ErrForm))
		}
	}
	full := someRib(mostRoutes)
	holdRib(t, "full", impl.RibOwn(full, nets[mostRoutes], 0), fault(impl.ErrFull))
	if got := impl.RibOwn(full, nets[0], 0); got.Code != impl.OK || len(got.Rib.Routes) != mostRoutes {
		t.Errorf("full, in the place of another one: got %+v", got)
	}
}

func TestRibLearnFaults(t *testing.T) {
	n := netsOfAll()[4]
	for many := range mostRoutes + 1 {
		l := someRib(many)
		for _, bad := range wrongSaid() {
			holdRib(t, "a wrong field", impl.RibLearn(l, bad, 10), fault(impl.ErrForm))
		}
		for _, now := range wrongNows {
			holdRib(t, "a wrong now", impl.RibLearn(l, liveRoute(n), now), fault(impl.ErrForm))
			holdRib(t, "a wrong now", impl.RibLearn(l, goneRoute(n), now), fault(impl.ErrForm))
		}
		for _, net := range netsOfAll() {
			own := ownRoute(net)
			holdRib(t, "told by nobody", impl.RibLearn(l, own, 10), fault(impl.ErrForm))
			own.Metric = impl.Infinity
			holdRib(t, "told by nobody", impl.RibLearn(l, own, 10), fault(impl.ErrForm))
		}
		for _, now := range edgeNows {
			holdRib(t, "now", impl.RibLearn(l, liveRoute(n), now), plainLearn(l, liveRoute(n), now))
			holdRib(t, "now", impl.RibLearn(l, goneRoute(n), now), plainLearn(l, goneRoute(n), now))
		}
		for _, f := range routeFields() {
			for _, edge := range f.edge {
				told := liveRoute(n)
				f.put(&told, edge)
				holdRib(t, "an edge", impl.RibLearn(l, told, 10), plainLearn(l, told, 10))
			}
		}
	}
}

// TestRibLearnCountsNoTimes: what is told tells no times, and no mark.
func TestRibLearnCountsNoTimes(t *testing.T) {
	for _, told := range []impl.Route{liveRoute(netsOfAll()[4]), goneRoute(netsOfAll()[4]), liveRoute(netsOfAll()[3]), liveRoute(netsOfAll()[0])} {
		for many := range mostRoutes + 1 {
			want := impl.RibLearn(someRib(many), told, 10)
			for _, until := range timesOf() {
				for _, bin := range timesOf() {
					for _, changed := range []bool{false, true} {
						told.Until, told.Bin, told.Changed = until, bin, changed
						holdRib(t, "times", impl.RibLearn(someRib(many), told, 10), want)
					}
				}
			}
		}
	}
}

// TestRibLearnCases has each case of the chapter, with what it makes, written out.
func TestRibLearnCases(t *testing.T) {
	n := impl.Net{Addr: 0x0A010000, Len: 16}
	live := impl.Route{Net: n, Metric: 3, Next: 9, Iface: 1, Tag: 7, Until: 12}
	liveChanged := live
	liveChanged.Changed = true
	gone := impl.Route{Net: n, Metric: 16, Next: 9, Iface: 1, Tag: 7, Bin: 11}
	own := impl.Route{Net: n, Metric: 15, Iface: 1, Tag: 7}
	say := func(metric, next, iface, tag int64) impl.Route {
		return impl.Route{Net: n, Metric: metric, Next: next, Iface: iface, Tag: tag}
	}
	at := func(r impl.Route, until, bin int64, changed bool) impl.Route {
		r.Until, r.Bin, r.Changed = until, bin, changed
		return r
	}
	for _, x := range []struct {
		what            string
		old, told, want impl.Route
	}{
		{"its own, told less", own, say(1, 9, 1, 7), own},
		{"its own, told more", own, say(15, 9, 1, 0), own},
		{"its own, told Infinity", own, say(16, 9, 1, 7), own},
		{"the same again", live, say(3, 9, 1, 7), at(say(3, 9, 1, 7), 16, 0, false)},
		{"the same again, Changed as it was", liveChanged, say(3, 9, 1, 7), at(say(3, 9, 1, 7), 16, 0, true)},
		{"the same one, less", live, say(2, 9, 1, 7), at(say(2, 9, 1, 7), 16, 0, true)},
		{"the same one, more", live, say(4, 9, 1, 7), at(say(4, 9, 1, 7), 16, 0, true)},
		{"the same one, the most below Infinity", live, say(15, 9, 1, 7), at(say(15, 9, 1, 7), 16, 0, true)},
		{"the same one, another Tag alone", live, say(3, 9, 1, 8), at(say(3, 9, 1, 8), 16, 0, true)},
		{"the same one, both", live, say(5, 9, 1, 0), at(say(5, 9, 1, 0), 16, 0, true)},
		{"the same one, Infinity", live, say(16, 9, 1, 7), at(say(16, 9, 1, 7), 0, 14, true)},
		{"the same one, Infinity and another Tag", live, say(16, 9, 1, 8), at(say(16, 9, 1, 7), 0, 14, true)},
		{"Infinity again", gone, say(16, 9, 1, 7), gone},
		{"Infinity again, another Tag", gone, say(16, 9, 1, 8), gone},
		{"back from Infinity", gone, say(15, 9, 1, 7), at(say(15, 9, 1, 7), 16, 0, true)},
		{"another Next, less", live, say(2, 8, 1, 5), at(say(2, 8, 1, 5), 16, 0, true)},
		{"another Next, the same Metric", live, say(3, 8, 1, 5), live},
		{"another Next, more", live, say(4, 8, 1, 7), live},
		{"another Next, Infinity", live, say(16, 8, 1, 7), live},
		{"another Next, for Infinity", gone, say(15, 8, 1, 5), at(say(15, 8, 1, 5), 16, 0, true)},
		{"another Next, Infinity for Infinity", gone, say(16, 8, 1, 5), gone},
		{"another Iface, less", live, say(2, 9, 0, 5), at(say(2, 9, 0, 5), 16, 0, true)},
		{"another Iface, the same Metric", live, say(3, 9, 0, 7), live},
		{"another Iface, more", live, say(4, 9, 2, 7), live},
		{"another Iface, Infinity", live, say(16, 9, 3, 7), live},
		{"another Iface, for Infinity", gone, say(15, 9, 0, 5), at(say(15, 9, 0, 5), 16, 0, true)},
		{"both others, less", liveChanged, say(1, 8, 0, 7), at(say(1, 8, 0, 7), 16, 0, true)},
		{"both others, the same", liveChanged, say(3, 8, 0, 7), liveChanged},
	} {
		ahead, behind := liveRoute(netsOfAll()[2]), liveRoute(netsOfAll()[6])
		holdRib(t, x.what+", alone", impl.RibLearn(impl.Rib{Routes: []impl.Route{x.old}}, x.told, 10), ribOf(x.want))
		holdRib(t, x.what+", among others", impl.RibLearn(impl.Rib{Routes: []impl.Route{ahead, x.old, behind}}, x.told, 10), ribOf(ahead, x.want, behind))
	}
	holdRib(t, "nothing of the Net", impl.RibLearn(impl.Rib{}, say(3, 9, 1, 7), 10), ribOf(at(say(3, 9, 1, 7), 16, 0, true)))
	holdRib(t, "nothing of the Net, Infinity", impl.RibLearn(impl.Rib{}, say(16, 9, 1, 7), 10), ribOf())
}

func TestRibLearnFull(t *testing.T) {
	full := someRib(mostRoutes)
	for _, n := range netsOfAll()[mostRoutes:] {
		holdRib(t, "no room", impl.RibLearn(full, liveRoute(n), 10), fault(impl.ErrFull))
		holdRib(t, "Infinity needs no room", impl.RibLearn(full, goneRoute(n), 10), impl.RibOut{Rib: full})
		holdRib(t, "form ahead of room", impl.RibLearn(full, liveRoute(n), -1), fault(impl.ErrForm))
		room := someRib(mostRoutes - 1)
		holdRib(t, "room for one", impl.RibLearn(room, liveRoute(n), 10), plainLearn(room, liveRoute(n), 10))
	}
	for _, n := range netsOfAll()[:mostRoutes] {
		for metric := int64(1); metric <= impl.Infinity; metric++ {
			told := liveRoute(n)
			told.Metric = metric
			if got := impl.RibLearn(full, told, 10); got.Code != impl.OK || len(got.Rib.Routes) != mostRoutes {
				t.Errorf("no more room is needed of %+v: got %+v", told, got)
			}
			holdRib(t, "full", impl.RibLearn(full, told, 10), plainLearn(full, told, 10))
		}
	}
}

// TestP8NobodyElsesRouteIsTouched goes through what may be told, of tables of all sizes.
func TestP8NobodyElsesRouteIsTouched(t *testing.T) {
	r := rand.New(rand.NewSource(62))
	for range 20000 {
		now := anyNow(r)
		l := anyRib(r, r.Intn(mostRoutes+1), now)
		nets := netsOfAll()
		told := anyRoute(r, nets[r.Intn(len(nets))], now)
		told.Next = []int64{1, 9, topAddr}[r.Intn(3)]
		got := impl.RibLearn(l, told, now)
		holdRib(t, "told", got, plainLearn(l, told, now))
		if got.Code != impl.OK {
			continue
		}
		for _, n := range nets {
			if n != told.Net && impl.RibFind(got.Rib, n) != impl.RibFind(l, n) {
				t.Fatalf("RibLearn(%+v, %+v, %d): touched %+v", l, told, now, n)
			}
		}
	}
}

// TestP8OwnIsNotTaken: whatever neighbours say, and whenever, what is its own stays.
func TestP8OwnIsNotTaken(t *testing.T) {
	r := rand.New(rand.NewSource(63))
	nets := netsOfAll()
	for _, n := range nets {
		for _, iface := range edgeIfaces {
			l := impl.RibOwn(impl.Rib{}, n, iface).Rib
			own := impl.RibFind(l, n)
			for i := range int64(400) {
				told := anyRoute(r, nets[r.Intn(len(nets))], i)
				told.Next = 1 + r.Int63n(topAddr)
				if i%2 == 0 {
					told.Net = n
				}
				if out := impl.RibLearn(l, told, i); out.Code == impl.OK {
					l = out.Rib
				}
				l = impl.RibTick(l, i).Rib
				if impl.RibFind(l, n) != own {
					t.Fatalf("its own of %+v is %+v behind %+v", n, impl.RibFind(l, n), told)
				}
			}
		}
	}
}

// TestRibTickOneByOne has Routes that go, are of Infinity from now on, and stay, in one table.
func TestRibTickOneByOne(t *testing.T) {
	nets := netsOfAll()
	live := func(i int, until int64) impl.Route {
		return impl.Route{Net: nets[i], Metric: 2, Next: 9, Iface: 1, Tag: 7, Until: until}
	}
	gone := func(i int, bin int64) impl.Route {
		return impl.Route{Net: nets[i], Metric: 16, Next: 8, Iface: 2, Tag: 6, Bin: bin}
	}
	lost := func(i int) impl.Route {
		return impl.Route{Net: nets[i], Metric: 16, Next: 9, Iface: 1, Tag: 7, Bin: 24, Changed: true}
	}
	own := ownRoute(nets[0])
	l := impl.Rib{Routes: []impl.Route{own, live(1, 19), live(2, 20), live(3, 21), gone(4, 19), gone(5, 20), gone(6, 21), live(7, 1)}}
	holdRib(t, "all kinds", impl.RibTick(l, 20), ribOf(own, lost(1), lost(2), live(3, 21), gone(6, 21), lost(7)))
	all := impl.Rib{Routes: []impl.Route{gone(1, 1), gone(2, 20), gone(3, 5)}}
	holdRib(t, "all go", impl.RibTick(all, 20), ribOf())
	holdRib(t, "nothing", impl.RibTick(impl.Rib{}, 20), ribOf())
	never := impl.Rib{Routes: []impl.Route{own, live(1, mostNow+1), live(2, impl.MaxTime), gone(3, mostNow+1), gone(4, impl.MaxTime)}}
	for _, now := range edgeNows {
		holdRib(t, "later than any now", impl.RibTick(never, now), impl.RibOut{Rib: never})
	}
	last := impl.Rib{Routes: []impl.Route{live(1, mostNow), gone(2, mostNow)}}
	want := lost(1)
	want.Bin = mostNow + 4
	holdRib(t, "at the last now", impl.RibTick(last, mostNow), ribOf(want))
	holdRib(t, "ahead of the last now", impl.RibTick(last, mostNow-1), impl.RibOut{Rib: last})
	first := impl.Rib{Routes: []impl.Route{live(1, 1), gone(2, 1)}}
	holdRib(t, "at the first now", impl.RibTick(first, 0), impl.RibOut{Rib: first})
}

func TestRibTickAndLoseFaults(t *testing.T) {
	for many := range mostRoutes + 1 {
		l := someRib(many)
		for _, now := range wrongNows {
			holdRib(t, "tick", impl.RibTick(l, now), fault(impl.ErrForm))
			for _, iface := range append(wrongIfaces, edgeIfaces...) {
				holdRib(t, "lose", impl.RibLose(l, iface, now), fault(impl.ErrForm))
			}
		}
		for _, now := range edgeNows {
			holdRib(t, "tick", impl.RibTick(l, now), plainTick(l, now))
			for _, iface := range edgeIfaces {
				holdRib(t, "lose", impl.RibLose(l, iface, now), plainLose(l, iface, now))
			}
			for _, iface := range wrongIfaces {
				holdRib(t, "lose what nothing is of", impl.RibLose(l, iface, now), impl.RibOut{Rib: l})
			}
		}
	}
}

// TestRibLoseOneByOne has Routes that go, are of Infinity from now on, and stay, in one table.
func TestRibLoseOneByOne(t *testing.T) {
	nets := netsOfAll()
	of := func(r impl.Route, iface int64) impl.Route {
		r.Iface = iface
		return r
	}
	for _, down := range edgeIfaces {
		up := (down + 1) % 4
		lost := impl.Route{Net: nets[2], Metric: 16, Next: 9, Iface: down, Tag: 7, Bin: 24, Changed: true}
		l := impl.Rib{Routes: []impl.Route{
			of(ownRoute(nets[0]), down), of(ownRoute(nets[1]), up),
			of(liveRoute(nets[2]), down), of(liveRoute(nets[3]), up),
			of(goneRoute(nets[4]), down), of(goneRoute(nets[5]), up),
		}}
		want := ribOf(l.Routes[1], lost, l.Routes[3], l.Routes[4], l.Routes[5])
		holdRib(t, "all kinds", impl.RibLose(l, down, 20), want)
		due := slices.Clone(l.Routes)
		due[3].Until, due[5].Bin, due[4].Bin = 5, 6, 7
		want = ribOf(due[1], lost, due[3], due[4], due[5])
		holdRib(t, "what is due waits for a tick", impl.RibLose(impl.Rib{Routes: due}, down, 20), want)
		holdRib(t, "all go", impl.RibLose(ribOf(of(ownRoute(nets[0]), down), of(ownRoute(nets[3]), down)).Rib, down, 20), ribOf())
		holdRib(t, "nothing", impl.RibLose(impl.Rib{}, down, 20), ribOf())
	}
}

// TestP9NotToldAgain: it is of use up to its time, out of reach for a while, and goes.
func TestP9NotToldAgain(t *testing.T) {
	n := netsOfAll()[4]
	for _, start := range []int64{0, 1, 77, mostNow - 20} {
		told := impl.Route{Net: n, Metric: 2, Next: 9, Iface: 1}
		l := impl.RibLearn(impl.Rib{}, told, start).Rib
		for now := start; now < start+15; now++ {
			l = impl.RibTick(l, now).Rib
			best, there := impl.RibBest(l, n.Addr), len(l.Routes)
			if use := now < start+6; (best.Net == n) != use {
				t.Errorf("told at %d: of use at %d: got %+v", start, now, best)
			}
			if want := now < start+10; (there == 1) != want {
				t.Errorf("told at %d: there at %d: got %d", start, now, there)
			}
		}
		l = impl.RibLearn(impl.Rib{}, told, start).Rib
		for now := start; now < start+18; now++ {
			l = impl.RibTick(l, now).Rib
			if impl.RibBest(l, n.Addr).Net != n {
				t.Errorf("told again and again from %d on: of no use at %d", start, now)
			}
			if (now-start)%5 == 0 {
				l = impl.RibLearn(l, told, now).Rib
			}
		}
	}
}

// TestP9SaidToBeGone: said again and again, it goes at the same time.
func TestP9SaidToBeGone(t *testing.T) {
	n := netsOfAll()[4]
	told := impl.Route{Net: n, Metric: 2, Next: 9, Iface: 1}
	l := impl.RibLearn(impl.Rib{}, told, 10).Rib
	told.Metric = impl.Infinity
	for now := int64(11); now < 18; now++ {
		l = impl.RibLearn(l, told, now).Rib
		l = impl.RibTick(l, now).Rib
		if impl.RibBest(l, n.Addr) != (impl.Route{}) {
			t.Errorf("of use at %d: %+v", now, l)
		}
		if want := now < 15; (len(l.Routes) == 1) != want {
			t.Errorf("there at %d: got %+v", now, l)
		}
	}
}

// TestP9IfaceDown: nothing by it is of use from then on, and all of it goes; what came by others stays.
func TestP9IfaceDown(t *testing.T) {
	r := rand.New(rand.NewSource(64))
	for range 5000 {
		now := min(anyNow(r), mostNow-10)
		l := anyRib(r, r.Intn(mostRoutes+1), now)
		down := r.Int63n(4)
		lost := impl.RibLose(l, down, now)
		holdRib(t, "lost", lost, plainLose(l, down, now))
		for _, x := range lost.Rib.Routes {
			if x.Iface == down && (x.Metric != impl.Infinity || x.Next == 0) {
				t.Fatalf("RibLose(%+v, %d, %d): of use: %+v", l, down, now, x)
			}
		}
		for _, x := range l.Routes {
			if x.Iface != down && impl.RibFind(lost.Rib, x.Net) != x {
				t.Fatalf("RibLose(%+v, %d, %d): touched %+v", l, down, now, x)
			}
		}
		late := impl.RibTick(lost.Rib, now+5).Rib
		for _, x := range late.Routes {
			if was := impl.RibFind(l, x.Net); x.Iface == down && was.Metric != impl.Infinity {
				t.Fatalf("RibLose(%+v, %d, %d): still there: %+v", l, down, now, x)
			}
		}
	}
}

func TestP9TicksOfAnyTable(t *testing.T) {
	r := rand.New(rand.NewSource(65))
	for range 10000 {
		now := anyNow(r)
		l := anyRib(r, r.Intn(mostRoutes+1), now)
		got := impl.RibTick(l, now)
		holdRib(t, "ticked", got, plainTick(l, now))
		for _, x := range got.Rib.Routes {
			if x.Until > 0 && x.Until <= now || x.Bin > 0 && x.Bin <= now {
				t.Fatalf("RibTick(%+v, %d): behind its time: %+v", l, now, x)
			}
		}
		holdRib(t, "ticked twice", impl.RibTick(got.Rib, now), got)
	}
}

func TestRibQuiet(t *testing.T) {
	for many := range mostRoutes + 1 {
		for marks := range 1 << many {
			l := someRib(many)
			for i := range l.Routes {
				l.Routes[i].Changed = marks>>i&1 == 1
			}
			got := impl.RibQuiet(l)
			if !slices.Equal(got.Routes, plainQuiet(l).Routes) {
				t.Errorf("RibQuiet(%+v): got %+v", l, got)
			}
		}
	}
}

// TestRibsInARow makes each table out of the one ahead of it: they stay right, and as the plain ones.
func TestRibsInARow(t *testing.T) {
	r := rand.New(rand.NewSource(66))
	nets := netsOfAll()
	for range 100 {
		var l impl.Rib
		for now := range int64(100) {
			told := anyRoute(r, nets[r.Intn(len(nets))], now)
			told.Next = []int64{1, 9}[r.Intn(2)]
			holdAll(t, "in a row", l, told, r.Int63n(topAddr+1), now)
			var out impl.RibOut
			switch r.Intn(12) {
			case 0:
				out = impl.RibOwn(l, told.Net, told.Iface)
			case 1:
				out = impl.RibLose(l, told.Iface, now)
			case 2:
				out = impl.RibOut{Rib: impl.RibQuiet(l)}
			case 3, 4, 5:
				out = impl.RibTick(l, now)
			default:
				out = impl.RibLearn(l, told, now)
			}
			if out.Code == impl.OK {
				l = out.Rib
			}
		}
	}
}

// spare has room behind its Routes, with something in it that is nobody's to write into.
func spare(l impl.Rib) (impl.Rib, []impl.Route) {
	whole := make([]impl.Route, 0, len(l.Routes)+4)
	whole = append(whole, l.Routes...)
	whole = append(whole, impl.Route{Tag: 1}, impl.Route{Tag: 2}, impl.Route{Tag: 3}, impl.Route{Tag: 4})
	return impl.Rib{Routes: whole[:len(l.Routes)]}, whole
}

// TestRibKeepsNothing: no call writes into a table, and none hands a piece of it out.
func TestRibKeepsNothing(t *testing.T) {
	n := netsOfAll()
	calls := []func(impl.Rib) impl.Rib{
		func(l impl.Rib) impl.Rib { return impl.RibQuiet(l) },
		func(l impl.Rib) impl.Rib { return impl.RibTick(l, 0).Rib },
		func(l impl.Rib) impl.Rib { return impl.RibTick(l, 500).Rib },
		func(l impl.Rib) impl.Rib { return impl.RibLose(l, 1, 10).Rib },
		func(l impl.Rib) impl.Rib { return impl.RibLose(l, 2, 10).Rib },
		func(l impl.Rib) impl.Rib { return impl.RibLose(l, 0, 10).Rib },
		func(l impl.Rib) impl.Rib { return impl.RibOwn(l, n[0], 0).Rib },
		func(l impl.Rib) impl.Rib { return impl.RibOwn(l, n[11], 0).Rib },
		func(l impl.Rib) impl.Rib { return impl.RibLearn(l, liveRoute(n[0]), 10).Rib },
		func(l impl.Rib) impl.Rib { return impl.RibLearn(l, liveRoute(n[1]), 10).Rib },
		func(l impl.Rib) impl.Rib { return impl.RibLearn(l, goneRoute(n[3]), 10).Rib },
		func(l impl.Rib) impl.Rib { return impl.RibLearn(l, goneRoute(n[11]), 10).Rib },
		func(l impl.Rib) impl.Rib { return impl.RibLearn(l, liveRoute(n[11]), 10).Rib },
		func(l impl.Rib) impl.Rib { impl.RibFind(l, n[1]); return impl.Rib{} },
		func(l impl.Rib) impl.Rib { impl.RibBest(l, 5); return impl.Rib{} },
	}
	for many := range mostRoutes + 1 {
		for i, call := range calls {
			l, whole := spare(someRib(many))
			ahead := slices.Clone(whole)
			got := call(l)
			first := slices.Clone(got.Routes)
			for at := range got.Routes {
				got.Routes[at] = impl.Route{Tag: 77}
			}
			got.Routes = append(got.Routes, impl.Route{Tag: 78})
			if !slices.Equal(whole, ahead) {
				t.Errorf("call %d of %d Routes: what was handed in is changed: %+v", i, many, whole)
			}
			if again := call(l); !slices.Equal(again.Routes, first) {
				t.Errorf("call %d of %d Routes: again: got %+v, want %+v", i, many, again.Routes, first)
			}
		}
	}
}
