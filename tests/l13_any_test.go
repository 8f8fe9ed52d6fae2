package tests

import (
	"math/rand"
	"slices"
	"strings"
	"testing"

	"loop.example/g00300/impl"
)

// checkHealth asks for all that is told of health. It tells whether it is good.
func checkHealth(t *testing.T, h impl.Health) bool {
	t.Helper()
	good := wantGoodHealth(h)
	if impl.GoodHealth(h) != good {
		t.Errorf("GoodHealth(%v) = %v", h, !good)
	}
	names, ok := wantUpIn(h)
	if got, told := impl.UpIn(h); !slices.Equal(got, names) || told != ok {
		t.Errorf("UpIn(%v) = %q, %v; want %q, %v", h, got, told, names, ok)
	}
	return good
}

// checkNameAt tells whether there is a host with that name.
func checkNameAt(t *testing.T, h impl.Health, name string) bool {
	t.Helper()
	up, ok := wantIsUp(h, name)
	if got, told := impl.IsUp(h, name); got != up || told != ok {
		t.Errorf("IsUp(%v, %q) = %v, %v; want %v, %v", h, name, got, told, up, ok)
	}
	return ok
}

// checkProbe tells whether it is taken, and whether it changes what is told.
func checkProbe(t *testing.T, h impl.Health, p impl.Probe) (bool, bool) {
	t.Helper()
	row, ok := wantRowOf(h, p.Host)
	if got, told := impl.RowOf(h, p.Host); got != row || told != ok {
		t.Errorf("RowOf(%v, %d) = %d, %v; want %d, %v", h, p.Host, got, told, row, ok)
	}
	want, changed, ok := wantTakeProbe(h, p)
	got, turned, told := impl.TakeProbe(h, p)
	if !alikeHealth(got, want) || turned != changed || told != ok {
		t.Errorf("TakeProbe(%v, %v) = %v, %v, %v; want %v, %v, %v", h, p, got, turned, told, want, changed, ok)
	}
	if ok && !impl.GoodHealth(got) {
		t.Errorf("TakeProbe(%v, %v) = %v, which is not good", h, p, got)
	}
	return ok, changed
}

// checkPlay tells whether the probes are taken, and how often one changes what is told.
func checkPlay(t *testing.T, rise, fall int, names []string, l []impl.Probe) (bool, int) {
	t.Helper()
	want, ok := wantNewHealth(rise, fall, names)
	if got, told := impl.NewHealth(rise, fall, names); !alikeHealth(got, want) || told != ok {
		t.Errorf("NewHealth(%d, %d, %q) = %v, %v; want %v, %v", rise, fall, names, got, told, want, ok)
	}
	want, many, ok := wantPlayProbes(rise, fall, names, l)
	if got, changes, told := impl.PlayProbes(rise, fall, names, l); !alikeHealth(got, want) || changes != many || told != ok {
		t.Errorf("PlayProbes(%d, %d, %q, %v) = %v, %d, %v; want %v, %d, %v", rise, fall, names, l, got, changes, told, want, many, ok)
	}
	return ok, many
}

func TestHealthAnswersAtAnyArguments(t *testing.T) {
	r := rand.New(rand.NewSource(133))
	good, there, taken, changed, sizes := map[bool]int{}, map[bool]int{}, map[bool]int{}, map[bool]int{}, map[int]int{}
	for range 2000 {
		h := randomHealth(r)
		sizes[len(h.Hosts)]++
		other := damagedHealth(r, h)
		for _, tried := range []impl.Health{h, other, damagedHealth(r, other)} {
			good[checkHealth(t, tried)]++
			for _, host := range tried.Hosts {
				there[checkNameAt(t, tried, host.Name)]++
			}
			there[checkNameAt(t, tried, "")]++
			there[checkNameAt(t, tried, randomName(r))]++
			for _, host := range []int{-1, 0, len(tried.Hosts) - 1, len(tried.Hosts), r.Intn(mostHosts), randomInt(r)} {
				for _, fine := range []bool{false, true} {
					is, turns := checkProbe(t, tried, impl.Probe{Host: host, Fine: fine})
					taken[is]++
					changed[turns]++
				}
			}
		}
	}
	if min(good[true], good[false], there[true], there[false], taken[true], taken[false], changed[true], changed[false]) < 1500 || len(sizes) != mostHosts {
		t.Error("the health is all of one kind", good, there, taken, changed, sizes)
	}
}

func TestProbesAnswerAtAnyArguments(t *testing.T) {
	r := rand.New(rand.NewSource(134))
	played, changes := map[bool]int{}, 0
	for range 1500 {
		h := randomHealth(r)
		l := randomProbes(r, len(h.Hosts), []int{0, 1, mostProbes, mostProbes + 1, r.Intn(mostProbes), r.Intn(mostProbes)}[r.Intn(6)])
		other := damagedHealth(r, h)
		for _, tried := range []impl.Health{h, other} {
			for _, probes := range [][]impl.Probe{l, damagedProbes(r, l, len(h.Hosts))} {
				ok, many := checkPlay(t, tried.Rise, tried.Fall, namesOfHosts(tried.Hosts), probes)
				played[ok]++
				changes += many
			}
		}
	}
	if min(played[true], played[false]) < 1500 || changes < 10000 {
		t.Error("the probes are all of one kind", played, changes)
	}
}

// All that may be seen of one host in at most ten probes, with all small Rise and Fall.
func TestAllThatMayBeSeen(t *testing.T) {
	for _, seen := range textsOver("+-", 10) {
		l := probesOf(0, seen)
		for rise := 1; rise <= 4; rise++ {
			for fall := 1; fall <= 4; fall++ {
				checkPlay(t, rise, fall, []string{"a"}, l)
			}
		}
	}
}

// All probes of two hosts and of numbers beside them, at most four of them.
func TestAllSmallProbes(t *testing.T) {
	var one []impl.Probe
	for host := -1; host <= 2; host++ {
		one = append(one, impl.Probe{Host: host}, impl.Probe{Host: host, Fine: true})
	}
	for _, numbers := range smallLists(4, 0, len(one)-1) {
		var l []impl.Probe
		for _, n := range numbers {
			l = append(l, one[n])
		}
		for _, two := range [][2]int{{1, 1}, {1, 2}, {2, 1}, {2, 2}} {
			checkPlay(t, two[0], two[1], []string{"b", "a"}, l)
		}
	}
}

// All health of at most two hosts with small numbers, good or not.
func TestAllSmallHealth(t *testing.T) {
	var one []impl.Host
	for row := -1; row <= 3; row++ {
		for _, name := range []string{"", "a", "b", "A"} {
			one = append(one, upAt(name, row), downAt(name, row))
		}
	}
	good := map[bool]int{}
	check := func(hosts ...impl.Host) {
		for _, two := range [][2]int{{0, 1}, {1, 0}, {1, 1}, {1, 2}, {2, 1}, {2, 3}, {3, 2}, {10, 11}, {11, 10}} {
			h := healthOf(two[0], two[1], hosts...)
			good[checkHealth(t, h)]++
			for host := -1; host <= len(hosts); host++ {
				checkProbe(t, h, impl.Probe{Host: host})
				checkProbe(t, h, impl.Probe{Host: host, Fine: true})
			}
			for _, name := range []string{"", "a", "b", "A"} {
				checkNameAt(t, h, name)
			}
		}
	}
	check()
	for _, a := range one {
		check(a)
		for _, b := range one {
			check(a, b)
		}
	}
	if min(good[true], good[false]) < 100 {
		t.Error("the health is all of one kind", good)
	}
}

func TestHealthAnswersAtWildArguments(t *testing.T) {
	edges := append(wildInts(), 0, 1, 2, 9, 10, 11, 12, 13)
	texts := []string{"", "a", "*", "A", ".", "\x00", "\xff", name60, name60 + "c", strings.Repeat("a.", 1<<16)}
	for _, a := range edges {
		for _, b := range edges {
			for _, s := range texts {
				for _, hosts := range [][]impl.Host{nil, {}, {{}}, {upAt(s, 0)}, {upAt(s, a), downAt("b", b)}, {downAt(s, a), upAt("b", b)}, {upAt(s, 0), upAt(s, 0)}} {
					h := impl.Health{Rise: a, Fall: b, Hosts: hosts}
					checkHealth(t, h)
					checkNameAt(t, h, s)
					checkProbe(t, h, impl.Probe{Host: a})
					checkProbe(t, h, impl.Probe{Host: b, Fine: true})
				}
				checkPlay(t, a, b, []string{s}, probesOf(0, "-+--+---"))
				checkPlay(t, a, b, []string{s, s}, nil)
				checkPlay(t, 2, 3, []string{"b", s}, []impl.Probe{{Host: a}, {Host: b}})
			}
			checkPlay(t, a, b, make([]string, 12), make([]impl.Probe, 200))
			checkPlay(t, a, b, nil, make([]impl.Probe, 1<<10))
			checkPlay(t, a, b, make([]string, 1<<10), nil)
		}
		many := impl.Health{Rise: a, Fall: 1, Hosts: make([]impl.Host, 1<<10)}
		checkHealth(t, many)
		checkNameAt(t, many, "")
		checkProbe(t, many, impl.Probe{Host: a})
	}
}

// withSpareHosts puts hosts behind a list, in its memory.
func withSpareHosts(h impl.Health, spare ...impl.Host) impl.Health {
	h.Hosts = append(slices.Clone(h.Hosts), spare...)[:len(h.Hosts)]
	return h
}

// What lies behind hosts would make them too many, or bad, or be told: it does not count, and stays.
func TestNoHealthIsWrittenInto(t *testing.T) {
	r := rand.New(rand.NewSource(135))
	all := []impl.Health{{}, healthOf(2, 2), healthOf(1, 1, upAt("a", 0)), healthOf(1, 1, downAt("a", 0)), healthOf(2, 2, upAt("a", 2))}
	for range 300 {
		h := randomHealth(r)
		all = append(all, h, damagedHealth(r, h))
	}
	for _, h := range all {
		for _, spare := range [][]impl.Host{{upAt("spare", 0)}, {downAt("spare", 0), upAt("spare", 0)}, {upAt("", -1)}, make([]impl.Host, 12)} {
			given := withSpareHosts(h, spare...)
			before := slices.Clone(given.Hosts[:cap(given.Hosts)])
			checkHealth(t, given)
			checkNameAt(t, given, "spare")
			for host := range len(h.Hosts) + 1 {
				checkProbe(t, given, impl.Probe{Host: host})
				checkProbe(t, given, impl.Probe{Host: host, Fine: true})
			}
			if !slices.Equal(given.Hosts[:cap(given.Hosts)], before) {
				t.Errorf("%v was written into: %v", before, given.Hosts[:cap(given.Hosts)])
			}
		}
	}
}

func TestNoProbesAreWrittenInto(t *testing.T) {
	r := rand.New(rand.NewSource(136))
	for range 300 {
		h := randomHealth(r)
		l := randomProbes(r, len(h.Hosts), r.Intn(mostProbes+1))
		for _, tried := range [][]impl.Probe{l, damagedProbes(r, l, len(h.Hosts)), nil} {
			names, wholeNames := withSpare(namesOfHosts(h.Hosts))
			probes := append(slices.Clone(tried), impl.Probe{Host: -1}, impl.Probe{Host: len(names)})[:len(tried)]
			namesBefore, before := slices.Clone(wholeNames), slices.Clone(probes[:cap(probes)])
			checkPlay(t, h.Rise, h.Fall, names, probes)
			if !slices.Equal(probes[:cap(probes)], before) || !slices.Equal(wholeNames, namesBefore) {
				t.Errorf("%v or %q was written into", before, namesBefore)
			}
		}
	}
}

// freshHealth lies in memory of its own.
func freshHealth(h impl.Health) impl.Health {
	h.Hosts = slices.Clone(h.Hosts)
	for i, host := range h.Hosts {
		h.Hosts[i].Name = strings.Clone(host.Name)
	}
	return h
}

// Each answer is written over up to its end in memory: neither what was given nor another answer may change by that.
func TestHealthAnswersShareNoMemory(t *testing.T) {
	r := rand.New(rand.NewSource(137))
	for range 400 {
		h := freshHealth(randomHealth(r))
		names := freshTexts(namesOfHosts(h.Hosts))
		l := randomProbes(r, len(names), 1+r.Intn(mostProbes))
		healthBefore, namesBefore, probesBefore := freshHealth(h), freshTexts(names), slices.Clone(l)
		given := append(namesOfHosts(h.Hosts), names...)

		made, _ := impl.NewHealth(h.Rise, h.Fall, names)
		taken, _, _ := impl.TakeProbe(h, l[0])
		played, _, _ := impl.PlayProbes(h.Rise, h.Fall, names, l)
		bare, _, ok := impl.PlayProbes(h.Rise, h.Fall, names, nil)
		up, _ := impl.UpIn(h)
		madeAgain, _ := impl.NewHealth(h.Rise, h.Fall, names)
		takenAgain, _, _ := impl.TakeProbe(h, l[0])
		playedAgain, _, _ := impl.PlayProbes(h.Rise, h.Fall, names, l)
		upAgain, _ := impl.UpIn(h)
		if !ok || len(made.Hosts) != len(names) || len(taken.Hosts) != len(names) || len(played.Hosts) != len(names) {
			t.Fatal("nothing is told", h)
		}
		for _, told := range []impl.Health{made, taken, played, bare} {
			wantApart(t, namesOfHosts(told.Hosts), given...)
			wantZerosBehind(t, told.Hosts)
			writeOver(told.Hosts, upAt("written", 77))
		}
		wantApart(t, up, given...)
		wantZerosBehind(t, up)
		writeOver(up, "written")
		wantMade, _ := wantNewHealth(h.Rise, h.Fall, names)
		wantTaken, _, _ := wantTakeProbe(h, l[0])
		wantPlayed, _, _ := wantPlayProbes(h.Rise, h.Fall, names, l)
		wantUp, _ := wantUpIn(h)
		if !alikeHealth(madeAgain, wantMade) || !alikeHealth(takenAgain, wantTaken) || !alikeHealth(playedAgain, wantPlayed) || !slices.Equal(upAgain, wantUp) {
			t.Errorf("an answer shares memory with one told ahead: %v, %v, %v, %q", madeAgain, takenAgain, playedAgain, upAgain)
		}
		if !alikeHealth(h, healthBefore) || !slices.Equal(names, namesBefore) || !slices.Equal(l, probesBefore) {
			t.Errorf("an answer shares memory with %v, %q or %v", healthBefore, namesBefore, probesBefore)
		}
	}
}

// Names that lie in one memory when they are handed in are apart from it in the answer, and from each other.
func TestHostsOfOneMemory(t *testing.T) {
	whole := strings.Clone("aa.bb.cc")
	names := []string{whole, whole[3:], whole[6:], whole[:2]}
	made, ok := impl.NewHealth(2, 2, names)
	if !ok {
		t.Fatal("nothing is told")
	}
	taken, _, _ := impl.TakeProbe(made, impl.Probe{})
	shared := healthOf(2, 2, upAt(names[0], 0), upAt(names[1], 1), downAt(names[2], 1), upAt(names[3], 0))
	other, _, _ := impl.TakeProbe(shared, impl.Probe{Host: 2, Fine: true})
	up, _ := impl.UpIn(shared)
	for _, told := range [][]string{namesOfHosts(made.Hosts), namesOfHosts(taken.Hosts), namesOfHosts(other.Hosts), up} {
		wantApart(t, told, names...)
		for i := range told {
			wantApart(t, told[:i], told[i])
		}
	}
	wantUp(t, shared, "aa.bb.cc", "bb.cc", "aa")
	wantUp(t, other, "aa.bb.cc", "bb.cc", "cc", "aa")
}

// What is told hangs on the arguments alone, not on what was asked ahead.
func TestHealthIsToldAlikeEachTime(t *testing.T) {
	r := rand.New(rand.NewSource(138))
	h, l := healthOf(2, 3, upAt("a", 2), downAt("b", 1)), probesOf(1, "--+---++-")
	for range 60 {
		checkHealth(t, h)
		checkProbe(t, h, impl.Probe{Host: 0})
		checkProbe(t, h, impl.Probe{Host: 1, Fine: true})
		checkPlay(t, 2, 3, []string{"a", "b"}, l)
		other := randomHealth(r)
		checkHealth(t, other)
		checkPlay(t, other.Rise, other.Fall, namesOfHosts(other.Hosts), randomProbes(r, len(other.Hosts), 50))
	}
}
