package tests

import (
	"fmt"
	"math"
	"math/rand"
	"regexp"
	"slices"
	"strconv"
	"strings"
	"testing"

	"loop.example/g00003/impl"
)

const (
	lastLink   = 7
	mostMetric = 1000000
	// gateway is an address that a route may lead over.
	gateway = ownAddr + 200
)

// validInterval is the addresses of a prefix as numbers from one to another; false if the prefix is not valid.
func validInterval(p impl.Prefix) (from, to int64, valid bool) {
	if p.Bits < 0 || p.Bits > 32 || p.Addr < 0 || p.Addr > lastAddr {
		return 0, 0, false
	}
	size := int64(1) << (32 - p.Bits)
	return p.Addr, p.Addr + size - 1, p.Addr%size == 0
}

func modelValidRoute(r impl.Route) bool {
	_, _, valid := validInterval(r.Prefix)
	return valid && (r.Via == 0 || hostAddr(r.Via)) && r.Link >= 0 && r.Link <= 7 && r.Metric >= 0 && r.Metric <= 1000000
}

func modelHas(p impl.Prefix, addr int64) bool {
	from, to, valid := validInterval(p)
	return valid && addr >= from && addr <= to
}

// modelFindRoute goes through the list and keeps what is better than all ahead of it.
func modelFindRoute(list []impl.Route, dst int64) (impl.Route, bool) {
	var best impl.Route
	found := false
	for _, r := range list {
		if !modelValidRoute(r) || !modelHas(r.Prefix, dst) {
			continue
		}
		if !found || r.Prefix.Bits > best.Prefix.Bits || r.Prefix.Bits == best.Prefix.Bits && r.Metric < best.Metric {
			best, found = r, true
		}
	}
	return best, found
}

// routeLine is a line of a text of routes, without what stands behind a #.
var routeLine = regexp.MustCompile(`\A[ \t]*([0-9.]+/[0-9]+)(?:[ \t]+via[ \t]+([0-9.]+))?[ \t]+link[ \t]+(0|[1-9][0-9]{0,9})(?:[ \t]+metric[ \t]+(0|[1-9][0-9]{0,9}))?[ \t]*\z`)

// modelRoute reads a line by its form as a whole.
func modelRoute(line string) (impl.Route, bool) {
	parts := routeLine.FindStringSubmatch(line)
	if parts == nil {
		return impl.Route{}, false
	}
	var r impl.Route
	var code int64
	if r.Prefix, code = impl.ReadPrefix(parts[1]); code != impl.OK {
		return impl.Route{}, false
	}
	if parts[2] != "" {
		if r.Via, code = impl.ReadAddr(parts[2]); code != impl.OK || r.Via == 0 {
			return impl.Route{}, false
		}
	}
	r.Link, _ = strconv.ParseInt(parts[3], 10, 64)
	if parts[4] != "" {
		r.Metric, _ = strconv.ParseInt(parts[4], 10, 64)
	}
	return r, modelValidRoute(r)
}

func plainAddr(addr int64) string {
	return fmt.Sprintf("%d.%d.%d.%d", addr>>24, addr>>16&255, addr>>8&255, addr&255)
}

// plainRoute is a valid route's line, written apart from the program.
func plainRoute(r impl.Route) string {
	line := fmt.Sprintf("%s/%d", plainAddr(r.Prefix.Addr), r.Prefix.Bits)
	if r.Via != 0 {
		line += " via " + plainAddr(r.Via)
	}
	line += fmt.Sprintf(" link %d", r.Link)
	if r.Metric != 0 {
		line += fmt.Sprintf(" metric %d", r.Metric)
	}
	return line
}

// routeLines are texts of routes.
func routeLines() lineKind[impl.Route] {
	return lineKind[impl.Route]{
		most: 64, read: impl.ReadRoutes, show: impl.ShowRoutes, model: modelRoute, plain: plainRoute,
		good: edgeRoutes(), ill: illRoutes(), illLines: illLines(), random: randomRoute,
		longest: impl.Route{Prefix: impl.Prefix{Addr: lastAddr, Bits: 32}, Via: 224<<24 - 1, Link: 7, Metric: mostMetric},
		pieces: []string{
			"10.0.0.0/8", "0.0.0.0/0", "1.2.3.4/32", "1.2.3.4/31", "via", "10.0.0.1", "0.0.0.0", "224.0.0.1", "link", "metric", "0", "1", "7", "8", "01", "1000000", "1000001",
			" ", " ", "\t", "\n", "\n", "#", "\r", "\x00", "\u00a0", "Link", "\xff",
		},
	}
}

func checkFind(t *testing.T, list []impl.Route, dst int64, want impl.Route, found bool) {
	t.Helper()
	got, ok := impl.FindRoute(list, dst)
	model, modelOk := modelFindRoute(list, dst)
	if got != want || ok != found || got != model || ok != modelOk {
		t.Errorf("FindRoute(%s, %d): %v, %v, not %v, %v", shortly(list), dst, got, ok, want, found)
	}
}

// checkAsModel asks for what the model finds, where a test's own words do not tell it.
func checkAsModel(t *testing.T, list []impl.Route, dst int64) {
	t.Helper()
	want, found := modelFindRoute(list, dst)
	checkFind(t, list, dst, want, found)
}

// routeTo is a route over the link 0, straight to its addresses.
func routeTo(addr, bits int64) impl.Route {
	return impl.Route{Prefix: impl.Prefix{Addr: addr, Bits: bits}}
}

// withMetric is like r but for two numbers, so that it can be told from others of its prefix.
func withMetric(r impl.Route, link, metric int64) impl.Route {
	r.Link, r.Metric = link, metric
	return r
}

// illRoutes are not valid, each for one reason; where that is not the prefix they would have every address.
func illRoutes() []impl.Route {
	all := routeTo(0, 0)
	var list []impl.Route
	for _, p := range illPrefixes() {
		list = append(list, impl.Route{Prefix: p}, impl.Route{Prefix: p, Via: gateway, Link: 7, Metric: 1})
	}
	for _, p := range []impl.Prefix{{Addr: ownAddr, Bits: 31}, {Addr: ownAddr, Bits: 33}, {Addr: ownAddr, Bits: 24}, {Addr: ownAddr + 1<<32, Bits: 32}} {
		list = append(list, impl.Route{Prefix: p})
	}
	for _, addr := range append(edgeNumbers(), addrsOfEachKind()...) {
		if addr != 0 && !hostAddr(addr) {
			via := all
			via.Via = addr
			list = append(list, via)
		}
	}
	for _, n := range append(edgeNumbers(), 8, 9, mostMetric+1, 2*mostMetric) {
		if n < 0 || n > lastLink {
			list = append(list, withMetric(all, n, 0))
		}
		if n < 0 || n > mostMetric {
			list = append(list, withMetric(all, 0, n))
		}
	}
	return list
}

// edgeRoutes are valid, with each of their numbers at both ends of its range.
func edgeRoutes() []impl.Route {
	var list []impl.Route
	for _, p := range somePrefixes() {
		list = append(list, impl.Route{Prefix: p}, impl.Route{Prefix: p, Via: gateway, Link: 3, Metric: 20})
	}
	for _, addr := range addrsOfEachKind() {
		if addr == 0 || hostAddr(addr) {
			list = append(list, impl.Route{Via: addr}, impl.Route{Via: addr, Link: lastLink, Metric: mostMetric})
		}
	}
	for link := range int64(lastLink + 1) {
		for _, metric := range []int64{0, 1, 9, 10, 99999, 100000, mostMetric - 1, mostMetric} {
			list = append(list, withMetric(routeTo(10<<24, 8), link, metric))
		}
	}
	return list
}

// randomRoute is valid; its prefix is one of few, so that routes lie in each other and meet.
func randomRoute(chance *rand.Rand) impl.Route {
	addrs := []int64{0, lastAddr, 10 << 24, 10<<24 + 1, 10<<24 + 1<<16, 127<<24 + 1, 1 << 31, chance.Int63n(lastAddr + 1)}
	bits := []int64{0, 1, 7, 8, 16, 23, 24, 30, 31, 32, chance.Int63n(33)}
	hosts := []int64{0, 0, 1, gateway, 127<<24 - 1, 128 << 24, 224<<24 - 1}
	metrics := []int64{0, 0, 1, 2, mostMetric, chance.Int63n(mostMetric + 1)}
	n := bits[chance.Intn(len(bits))]
	addr := addrs[chance.Intn(len(addrs))] >> (32 - n) << (32 - n)
	return impl.Route{
		Prefix: impl.Prefix{Addr: addr, Bits: n}, Via: hosts[chance.Intn(len(hosts))],
		Link: chance.Int63n(lastLink + 1), Metric: metrics[chance.Intn(len(metrics))],
	}
}

func randomRoutes(chance *rand.Rand, n int) []impl.Route {
	var list []impl.Route
	for range n {
		list = append(list, randomRoute(chance))
	}
	return list
}

// withIllOnes has routes that are not valid among the others.
func withIllOnes(chance *rand.Rand, list []impl.Route) []impl.Route {
	ill := illRoutes()
	for range chance.Intn(5) {
		list = slices.Insert(list, chance.Intn(len(list)+1), ill[chance.Intn(len(ill))])
	}
	return list
}

// placesOf are the addresses at both ends of all prefixes and beside them, and numbers that are none.
func placesOf(list []impl.Route) []int64 {
	places := []int64{-1, 0, 1, 1 << 31, lastAddr - 1, lastAddr, lastAddr + 1, math.MinInt64, math.MaxInt64}
	for _, r := range list {
		if from, to, valid := validInterval(r.Prefix); valid {
			places = append(places, from-1, from, from+1, to-1, to, to+1, (from+to)/2)
		}
	}
	return places
}

func TestFindRouteAmongFew(t *testing.T) {
	all := impl.Route{Via: gateway, Link: 1}
	ten := routeTo(10<<24, 8)
	checkFind(t, nil, ownAddr, impl.Route{}, false)
	checkFind(t, []impl.Route{}, ownAddr, impl.Route{}, false)
	checkFind(t, []impl.Route{ten}, ownAddr, ten, true)
	checkFind(t, []impl.Route{ten}, 11<<24, impl.Route{}, false)
	checkFind(t, []impl.Route{ten}, 10<<24-1, impl.Route{}, false)
	for _, list := range [][]impl.Route{{all, ten}, {ten, all}} {
		checkFind(t, list, ownAddr, ten, true)
		checkFind(t, list, 10<<24, ten, true)
		checkFind(t, list, 11<<24-1, ten, true)
		checkFind(t, list, 11<<24, all, true)
		checkFind(t, list, 0, all, true)
		checkFind(t, list, lastAddr, all, true)
	}
}

// The zero route is found like any other: whether there is one is told beside it.
func TestFindRouteTellsTheZeroRoute(t *testing.T) {
	for _, dst := range []int64{0, 1, ownAddr, 1 << 31, lastAddr} {
		checkFind(t, []impl.Route{{}}, dst, impl.Route{}, true)
	}
	for _, dst := range edgeNumbers() {
		checkFind(t, []impl.Route{{}}, dst, impl.Route{}, dst >= 0 && dst <= lastAddr)
	}
}

// More bits count ahead of a lesser metric, and of a place nearer to the front.
func TestFindRouteTakesTheMostBits(t *testing.T) {
	dst := int64(0xA5C3F00F)
	for low := range int64(33) {
		for high := low + 1; high <= 32; high++ {
			wide := withMetric(routeTo(dst>>(32-low)<<(32-low), low), 1, 0)
			narrow := withMetric(routeTo(dst>>(32-high)<<(32-high), high), 2, mostMetric)
			checkFind(t, []impl.Route{wide, narrow}, dst, narrow, true)
			checkFind(t, []impl.Route{narrow, wide}, dst, narrow, true)
			// The address with the last of the narrow one's bits turned is in the wide one alone.
			checkFind(t, []impl.Route{wide, narrow}, dst^1<<(32-high), wide, true)
			checkFind(t, []impl.Route{narrow, wide}, dst^1<<(32-high), wide, true)
		}
	}
}

func TestFindRouteTakesTheLeastMetric(t *testing.T) {
	for _, bits := range []int64{0, 1, 8, 31, 32} {
		dst := int64(0xA5C3F00F)
		base := routeTo(dst>>(32-bits)<<(32-bits), bits)
		for _, pair := range [][2]int64{{0, 1}, {0, mostMetric}, {1, 2}, {9, 10}, {mostMetric - 1, mostMetric}} {
			less, more := withMetric(base, 1, pair[0]), withMetric(base, 2, pair[1])
			checkFind(t, []impl.Route{less, more}, dst, less, true)
			checkFind(t, []impl.Route{more, less}, dst, less, true)
			checkFind(t, []impl.Route{more, less, more}, dst, less, true)
			checkFind(t, []impl.Route{more, more, routeTo(0, 1), less, less}, dst, less, true)
		}
	}
}

// With as many bits and the same metric the first counts, whatever its link and way are.
func TestFindRouteTakesTheFirst(t *testing.T) {
	for _, bits := range []int64{0, 1, 16, 31, 32} {
		for _, metric := range []int64{0, 1, mostMetric} {
			base := withMetric(routeTo(ownAddr>>(32-bits)<<(32-bits), bits), 4, metric)
			over := base
			over.Via = gateway
			list := []impl.Route{base, withMetric(base, 0, metric), over, withMetric(base, 7, metric)}
			for _, order := range orders(list) {
				checkFind(t, order, ownAddr, order[0], true)
			}
			checkFind(t, []impl.Route{base, base}, ownAddr, base, true)
		}
	}
}

func TestFindRouteOfFewAndOfAllBits(t *testing.T) {
	low, high := withMetric(routeTo(0, 1), 1, 0), withMetric(routeTo(1<<31, 1), 2, 0)
	one, pair := withMetric(routeTo(ownAddr, 32), 3, 9), withMetric(routeTo(ownAddr-1, 31), 4, 0)
	last, lastPair := withMetric(routeTo(lastAddr, 32), 5, 9), withMetric(routeTo(lastAddr-1, 31), 6, 0)
	for _, list := range orders([]impl.Route{low, high, one, pair, last, lastPair}) {
		for _, c := range []struct {
			dst  int64
			want impl.Route
		}{
			{0, low}, {1<<31 - 1, low}, {1 << 31, high}, {lastAddr - 2, high}, {lastAddr - 1, lastPair}, {lastAddr, last},
			{ownAddr - 2, low}, {ownAddr - 1, pair}, {ownAddr, one}, {ownAddr + 1, low},
		} {
			checkFind(t, list, c.dst, c.want, true)
		}
	}
	checkFind(t, []impl.Route{one, pair}, ownAddr+1, impl.Route{}, false)
	checkFind(t, []impl.Route{high, one}, 0, impl.Route{}, false)
}

// Each address of a small neighbourhood, with routes of all lengths there in any order.
func TestFindRouteInANeighbourhood(t *testing.T) {
	chance := newChance()
	for range 200 {
		var list []impl.Route
		for range 1 + chance.Intn(20) {
			bits := 26 + chance.Int63n(7)
			addr := (ownAddr&^63 + chance.Int63n(64)) >> (32 - bits) << (32 - bits)
			list = append(list, withMetric(routeTo(addr, bits), chance.Int63n(8), chance.Int63n(3)))
		}
		for dst := int64(ownAddr&^63 - 1); dst <= ownAddr&^63+64; dst++ {
			checkAsModel(t, list, dst)
		}
	}
}

// A route that is not valid is as if it were not there, however good it would be.
func TestFindRouteLeavesOutIllRoutes(t *testing.T) {
	all := withMetric(routeTo(0, 0), 5, mostMetric)
	for _, ill := range illRoutes() {
		for _, dst := range []int64{ill.Prefix.Addr, ownAddr, 0, lastAddr, -1, lastAddr + 1} {
			checkFind(t, []impl.Route{ill}, dst, impl.Route{}, false)
			want, found := all, true
			if dst < 0 || dst > lastAddr {
				want, found = impl.Route{}, false
			}
			checkFind(t, []impl.Route{ill, all}, dst, want, found)
			checkFind(t, []impl.Route{all, ill}, dst, want, found)
			checkFind(t, []impl.Route{ill, all, ill}, dst, want, found)
		}
	}
	list := append(illRoutes(), all)
	checkFind(t, list, ownAddr, all, true)
	checkFind(t, illRoutes(), ownAddr, impl.Route{}, false)
}

func TestFindRouteTakesEachValidOne(t *testing.T) {
	for _, r := range edgeRoutes() {
		for _, dst := range placesOf([]impl.Route{r}) {
			want, found := r, modelHas(r.Prefix, dst)
			if !found {
				want = impl.Route{}
			}
			checkFind(t, []impl.Route{r}, dst, want, found)
		}
	}
}

// The numbers of a route, each asked for at and beside the ends of its range.
func TestFindRouteAsksTheNumbers(t *testing.T) {
	for _, c := range []struct {
		r     impl.Route
		valid bool
	}{
		{impl.Route{Link: -1}, false}, {impl.Route{Link: 0}, true}, {impl.Route{Link: 7}, true}, {impl.Route{Link: 8}, false},
		{impl.Route{Metric: -1}, false}, {impl.Route{Metric: 0}, true}, {impl.Route{Metric: 1000000}, true}, {impl.Route{Metric: 1000001}, false},
		{impl.Route{Via: -1}, false}, {impl.Route{Via: 0}, true}, {impl.Route{Via: 1}, true}, {impl.Route{Via: gateway}, true},
		{impl.Route{Via: 127<<24 - 1}, true}, {impl.Route{Via: 127 << 24}, false}, {impl.Route{Via: 128 << 24}, true},
		{impl.Route{Via: 224<<24 - 1}, true}, {impl.Route{Via: 224 << 24}, false}, {impl.Route{Via: 240 << 24}, false},
		{impl.Route{Via: lastAddr}, false}, {impl.Route{Via: lastAddr + 1}, false}, {impl.Route{Via: 1<<32 + gateway}, false},
	} {
		want := c.r
		if !c.valid {
			want = impl.Route{}
		}
		checkFind(t, []impl.Route{c.r}, ownAddr, want, c.valid)
		if c.valid {
			routeLines().checkShow(t, []impl.Route{c.r}, plainRoute(c.r)+"\n", impl.OK)
		} else {
			routeLines().checkShow(t, []impl.Route{c.r}, "", impl.ErrForm)
		}
	}
}

// A list may have more routes than a text: FindRoute does not ask how many there are.
func TestFindRouteInLongLists(t *testing.T) {
	chance := newChance()
	for _, n := range []int{impl.MaxRoutes - 1, impl.MaxRoutes, impl.MaxRoutes + 1, 5000} {
		list := randomRoutes(chance, n)
		for i := range list {
			list[i].Prefix.Bits = max(list[i].Prefix.Bits, 1)
		}
		best := withMetric(routeTo(gateway, 32), 6, 0)
		list = append(list, withMetric(best, 5, 1), best)
		checkFind(t, list, gateway, best, true)
		for _, dst := range placesOf(list[:20]) {
			checkAsModel(t, list, dst)
		}
	}
	var each []impl.Route
	for n := range int64(200000) {
		each = append(each, withMetric(routeTo(n*20011&lastAddr, 32), n%8, n))
	}
	for _, n := range []int64{0, 1, 99999, 199999} {
		checkFind(t, each, each[n].Prefix.Addr, each[n], true)
		checkFind(t, each, each[n].Prefix.Addr+1, impl.Route{}, false)
	}
}

// P14: a valid route that has the address is found just if there is one, and none is better; ill ones are among them.
func TestFoundRoutesAreBest(t *testing.T) {
	chance := newChance()
	hits := 0
	for range 1500 {
		list := withIllOnes(chance, randomRoutes(chance, chance.Intn(20)))
		for _, dst := range placesOf(list) {
			got, found := impl.FindRoute(list, dst)
			there := false
			for _, r := range list {
				if !modelValidRoute(r) || !modelHas(r.Prefix, dst) {
					continue
				}
				there = true
				if r.Prefix.Bits > got.Prefix.Bits || r.Prefix.Bits == got.Prefix.Bits && r.Metric < got.Metric {
					t.Fatalf("FindRoute(%v, %d): %v, but %v is better", list, dst, got, r)
				}
			}
			if found != there || found && (!slices.Contains(list, got) || !modelValidRoute(got) || !modelHas(got.Prefix, dst)) {
				t.Fatalf("FindRoute(%v, %d): %v, %v, not %v", list, dst, got, found, there)
			}
			if found {
				hits++
			}
			checkAsModel(t, list, dst)
		}
	}
	if hits < 1000 {
		t.Errorf("found %d times only", hits)
	}
}

func TestRoutesOfAText(t *testing.T) {
	text := "# the ways out of here\n\n10.0.0.0/8 link 0\n  192.168.1.0/24\tvia 10.0.0.7 link 1#near\n" +
		"\t\n0.0.0.0/0 via 10.0.0.1 link 7 metric 1000000\n1.2.3.4/32 link 2 metric 0 # itself # and more\n   # the end"
	list := []impl.Route{
		{Prefix: impl.Prefix{Addr: 10 << 24, Bits: 8}},
		{Prefix: impl.Prefix{Addr: 192<<24 + 168<<16 + 1<<8, Bits: 24}, Via: 10<<24 + 7, Link: 1},
		{Via: 10<<24 + 1, Link: 7, Metric: 1000000},
		{Prefix: impl.Prefix{Addr: 0x01020304, Bits: 32}, Link: 2},
	}
	routeLines().checkReads(t, text, list...)
	routeLines().checkShow(t, list, "10.0.0.0/8 link 0\n192.168.1.0/24 via 10.0.0.7 link 1\n"+
		"0.0.0.0/0 via 10.0.0.1 link 7 metric 1000000\n1.2.3.4/32 link 2\n", impl.OK)
}

// illLines are each not a route, for one reason at least; none of them is of no words.
func illLines() []string {
	list := []string{
		"x", "link", "via", "metric", "link 1", "via 10.0.0.1 link 1", "10.0.0.0/8", "10.0.0.0/8 link", "10.0.0.0/8 1", "10.0.0.0/8 7 link",
		"10.0.0.0/8 via 10.0.0.1", "10.0.0.0/8 via link 1", "10.0.0.0/8 via 10.0.0.1 1", "10.0.0.0/8 via 10.0.0.1 link", "10.0.0.0/8 via", "10.0.0.0/8 10.0.0.1 link 1",
		"10.0.0.0/8 metric 1", "10.0.0.0/8 via 10.0.0.1 metric 1", "10.0.0.0/8 link metric 1", "10.0.0.0/8 link 1 metric", "10.0.0.0/8 link 1 1", "10.0.0.0/8 metric",
		"10.0.0.0/8 link 1 via 10.0.0.1", "10.0.0.0/8 metric 1 link 1", "link 1 10.0.0.0/8", "10.0.0.0/8 link 1 metric 2 via 10.0.0.1",
		"10.0.0.0/8 via 10.0.0.1 metric 2 link 1", "via 10.0.0.1 10.0.0.0/8 link 1", "10.0.0.0/8 metric 1 via 10.0.0.1 link 1", "1 link 10.0.0.0/8",
		"10.0.0.0/8 10.0.0.0/8 link 1", "10.0.0.0/8 link 1 link 1", "10.0.0.0/8 link link 1", "10.0.0.0/8 via 10.0.0.1 via 10.0.0.1 link 1", "10.0.0.0/8 via via 10.0.0.1 link 1",
		"10.0.0.0/8 link 1 metric 1 metric 1", "10.0.0.0/8 link 1 metric metric 1", "10.0.0.0/8 link 1 metric 1 link 1", "10.0.0.0/8 link 1 x", "10.0.0.0/8 link 1 metric 1 x", "10.0.0.0/8 link 1 metric 1 1",
		"10.0.0.0/8 x link 1", "x 10.0.0.0/8 link 1", "10.0.0.0/8 link x 1", "10.0.0.0/8 link 1 x metric 1", "10.0.0.0/8 via 10.0.0.1 x link 1", "10.0.0.0/8 link 1 10.0.0.0/8 link 1",
		"10.0.0.0/8 LINK 1", "10.0.0.0/8 Link 1", "10.0.0.0/8 VIA 10.0.0.1 link 1", "10.0.0.0/8 Via 10.0.0.1 link 1", "10.0.0.0/8 link 1 METRIC 1", "10.0.0.0/8 link 1 Metric 1", "10.0.0.0/8 lin\u212a 1",
		"10.0.0.0/8 linkx 1", "10.0.0.0/8 lin 1", "10.0.0.0/8 link1", "10.0.0.0/8link 1", "10.0.0.0/8 link=1", "10.0.0.0/8 link:1", "10.0.0.0/8 link 1;", "10.0.0.0/8, link 1", "\"10.0.0.0/8\" link 1",
		"10.0.0.0 link 1", "10.0.0.0/ link 1", "10.0.0.0 /8 link 1", "10.0.0.0/ 8 link 1", "/8 link 1", "10.0.0/8 link 1", "10.0.0.0.0/8 link 1", "10.0.0.1/8 link 1", "10.0.0.0/33 link 1",
		"10.0.0.0/08 link 1", "010.0.0.0/8 link 1", "256.0.0.0/8 link 1", "0.0.0.0/00 link 1", "0.0.0.0/-1 link 1", "128.0.0.0/0 link 1", "255.255.255.255/31 link 1", "any link 1", "default link 1",
		"10.0.0.0/8 via 10.0.0 link 1", "10.0.0.0/8 via 10.0.0.256 link 1", "10.0.0.0/8 via 10.0.0.01 link 1", "10.0.0.0/8 via 10.0.0.0/8 link 1", "10.0.0.0/8 via 10.0.0.1/32 link 1",
		"10.0.0.0/8 via 0 link 1", "10.0.0.0/8 via x link 1", "10.0.0.0/8 via -1 link 1", "10.0.0.0/8 via 10.0.0.1, link 1", "; 10.0.0.0/8 link 1", "// 10.0.0.0/8 link 1", "\x00", "\xff\xfe",
	}
	for _, via := range []string{"0.0.0.0", "127.0.0.0", "127.0.0.1", "127.255.255.255", "224.0.0.0", "224.0.0.1", "239.255.255.255", "240.0.0.0", "255.255.255.254", "255.255.255.255"} {
		list = append(list, "10.0.0.0/8 via "+via+" link 1", "10.0.0.0/8 via "+via+" link 1 metric 5")
	}
	for _, number := range illDecimals() {
		list = append(list, "10.0.0.0/8 link "+number, "10.0.0.0/8 link "+number+" metric 1", "10.0.0.0/8 link 1 metric "+number,
			"10.0.0.0/8 via 10.0.0.1 link "+number, "10.0.0.0/8 via 10.0.0.1 link 1 metric "+number)
	}
	for _, link := range []string{"8", "9", "10", "17", "70", "256", "65536"} {
		list = append(list, "10.0.0.0/8 link "+link, "0.0.0.0/0 via 10.0.0.1 link "+link+" metric 1000000")
	}
	for _, metric := range []string{"1000001", "1000002", "2000000", "9999999", "10000000", "4294967296"} {
		list = append(list, "10.0.0.0/8 link 1 metric "+metric, "0.0.0.0/0 via 10.0.0.1 link 7 metric "+metric)
	}
	return list
}

// illDecimals are no numbers, or greater than any that a route may have.
func illDecimals() []string {
	return []string{
		"00", "01", "007", "0000000001", "00000000000000000000001", "-1", "-0", "+1", "+0", "--1", "x", "1x", "x1", "1_0", "0x1", "1e0", "1.0", "1.", ".1", "1,0", "'1'",
		"2147483648", "4294967297", "9223372036854775807", "9223372036854775808", "18446744073709551615", "18446744073709551616", "18446744073709551617",
		"99999999999999999999999", "340282366920938463463374607431768211457", strings.Repeat("1", 5000), strings.Repeat("0", 5000), "\u0661", "\uff11", "1\x00", "one", "/", ":",
	}
}

func TestLinesOfRoutes(t *testing.T) { routeLines().checkAll(t) }

// A remark cuts a route short where it may be cut, and not elsewhere.
func TestRemarksInARoute(t *testing.T) {
	k := routeLines()
	r := impl.Route{Prefix: impl.Prefix{Addr: 10 << 24, Bits: 8}, Via: gateway, Link: 1}
	begin := "10.0.0.0/8 via " + plainAddr(gateway)
	k.checkReads(t, begin+" link 1#metric 23", r)
	k.checkReads(t, begin+" link 1# 2 metric 23", r)
	k.checkReads(t, begin+" link 1 metric 2#3", withMetric(r, 1, 2))
	k.checkIll(t, begin+" #link 1", 1)
	k.checkIll(t, "10.0.0.0/8# link 1", 1)
	k.checkIll(t, "10.0.0.0/8 link #1\n", 1)
	k.checkIll(t, "10.0.0.0/8 link 1 metric#1", 1)
}

// A metric of 0 may be told, but is not shown.
func TestMetricOfNought(t *testing.T) {
	for _, r := range edgeRoutes() {
		if r.Metric == 0 {
			routeLines().checkReads(t, plainRoute(r)+" metric 0\n", r)
		}
	}
}

func TestShownRoutes(t *testing.T) {
	for _, c := range []struct {
		r    impl.Route
		want string
	}{
		{impl.Route{}, "0.0.0.0/0 link 0\n"},
		{impl.Route{Link: 7}, "0.0.0.0/0 link 7\n"},
		{impl.Route{Metric: 1}, "0.0.0.0/0 link 0 metric 1\n"},
		{impl.Route{Via: 1}, "0.0.0.0/0 via 0.0.0.1 link 0\n"},
		{impl.Route{Prefix: impl.Prefix{Addr: lastAddr, Bits: 32}, Via: 224<<24 - 1, Link: 7, Metric: 1000000}, "255.255.255.255/32 via 223.255.255.255 link 7 metric 1000000\n"},
		{impl.Route{Prefix: impl.Prefix{Addr: 0x0A010200, Bits: 24}, Link: 2, Metric: 100}, "10.1.2.0/24 link 2 metric 100\n"},
	} {
		routeLines().checkShow(t, []impl.Route{c.r}, c.want, impl.OK)
		routeLines().checkShow(t, []impl.Route{c.r, {}, c.r}, c.want+"0.0.0.0/0 link 0\n"+c.want, impl.OK)
	}
}

// P15: lists of valid routes come back from their texts, and an ill line behind them is told by its number.
func TestRoutesComeBack(t *testing.T) { routeLines().checkComeBack(t) }

// P51: whatever it is given a call ends, and answers the same again.
func TestRoutesAnswerTheSameAgain(t *testing.T) {
	routeLines().checkSameAgain(t)
	chance := newChance()
	numbers := append(edgeNumbers(), 1, 7, 8, 24, 32, 33, mostMetric, mostMetric+1, ownAddr)
	pick := func() int64 { return numbers[chance.Intn(len(numbers))] }
	for range 3000 {
		list := withIllOnes(chance, randomRoutes(chance, chance.Intn(4)))
		for range chance.Intn(4) {
			list = append(list, impl.Route{Prefix: impl.Prefix{Addr: pick(), Bits: pick()}, Via: pick(), Link: pick(), Metric: pick()})
		}
		dst := pick()
		checkAsModel(t, list, dst)
		checkAsModel(t, slices.Clone(list), dst)
		text, code := impl.ShowRoutes(list)
		routeLines().checkShow(t, slices.Clone(list), text, code)
	}
}

// P51: a list stays as it is, the room behind it too, and no answer is its memory or another's.
func TestRoutesLeaveTheirList(t *testing.T) {
	routeLines().checkLeftAlone(t)
	chance := newChance()
	for _, n := range []int{0, 1, 5, impl.MaxRoutes, impl.MaxRoutes + 1} {
		room := randomRoutes(chance, n+20)
		kept := slices.Clone(room)
		for _, dst := range placesOf(room[10 : 10+n]) {
			impl.FindRoute(room[10:10+n], dst)
		}
		if !slices.Equal(room, kept) {
			t.Fatalf("a list of %d routes is changed", n)
		}
	}
}
