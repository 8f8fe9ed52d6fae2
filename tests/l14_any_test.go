package tests

import (
	"math/rand"
	"slices"
	"strings"
	"testing"

	"loop.example/g00300/impl"
)

// checkPolicy asks for all that is told of a policy alone. It tells whether it is good.
func checkPolicy(t *testing.T, p impl.Policy) bool {
	t.Helper()
	good := wantGoodPolicy(p)
	if impl.GoodPolicy(p) != good {
		t.Errorf("GoodPolicy(%s) = %v", shown(p), !good)
	}
	groups, ok := wantGroupsIn(p)
	if got, told := impl.GroupsIn(p); !slices.Equal(got, groups) || told != ok {
		t.Errorf("GroupsIn(%s) = %v, %v; want %v, %v", shown(p), got, told, groups, ok)
	}
	return good
}

// checkCandidates asks for all that is told of a policy and health. It tells whether anything is.
func checkCandidates(t *testing.T, p impl.Policy, h impl.Health) bool {
	t.Helper()
	group, ok := wantGroup(p, h)
	if got, told := impl.GroupOf(p, h); got != group || told != ok {
		t.Errorf("GroupOf(%s, %s) = %d, %v; want %d, %v", shown(p), shown(h), got, told, group, ok)
	}
	numbers, ok := wantCandidates(p, h)
	if got, told := impl.CandidatesOf(p, h); !slices.Equal(got, numbers) || told != ok {
		t.Errorf("CandidatesOf(%s, %s) = %v, %v; want %v, %v", shown(p), shown(h), got, told, numbers, ok)
	}
	shares, sum, ok := wantShares(p, h)
	if got, all, told := impl.SharesOf(p, h); !slices.Equal(got, shares) || all != sum || told != ok {
		t.Errorf("SharesOf(%s, %s) = %v, %d, %v; want %v, %d, %v", shown(p), shown(h), got, all, told, shares, sum, ok)
	}
	return ok
}

// checkDraw tells whether one is chosen.
func checkDraw(t *testing.T, p impl.Policy, h impl.Health, draw int) bool {
	t.Helper()
	at, ok := wantChosen(p, h, draw)
	if got, told := impl.ChooseTarget(p, h, draw); got != at || told != ok {
		t.Errorf("ChooseTarget(%s, %s, %d) = %d, %v; want %d, %v", shown(p), shown(h), draw, got, told, at, ok)
	}
	r, ok := wantAnswer(p, h, draw)
	if got, told := impl.AnswerOf(p, h, draw); got != r || told != ok {
		t.Errorf("AnswerOf(%s, %s, %d) = %v, %v; want %v, %v", shown(p), shown(h), draw, got, told, r, ok)
	}
	return ok
}

func TestPoliciesAnswerAtAnyArguments(t *testing.T) {
	r := rand.New(rand.NewSource(144))
	good, told, chosen, many := map[bool]int{}, map[bool]int{}, map[bool]int{}, map[int]int{}
	for range 1500 {
		h := randomHealth(r)
		p := randomPolicy(r, h)
		other := damagedPolicy(r, p)
		for _, tried := range []impl.Policy{p, other, damagedPolicy(r, other)} {
			good[checkPolicy(t, tried)]++
			for _, by := range []impl.Health{h, damagedHealth(r, h), randomHealth(r)} {
				told[checkCandidates(t, tried, by)]++
				numbers, _ := wantCandidates(tried, by)
				many[len(numbers)]++
				for range 4 {
					chosen[checkDraw(t, tried, by, randomDraw(r, tried, by))]++
				}
			}
		}
	}
	if min(good[true], good[false], told[true], told[false], chosen[true], chosen[false]) < 1000 || len(many) < mostTargets {
		t.Error("the policies are all of one kind", good, told, chosen, many)
	}
}

// All policies of at most four targets of two hosts, in two groups, with all that may be told of these hosts.
func TestAllSmallPolicies(t *testing.T) {
	var one []impl.Target
	for _, host := range []string{"a", "b"} {
		one = append(one, targetAt(host, 0, 2), targetAt(host, 1, 1))
	}
	all := []impl.Health{allWell(), {}}
	for _, up := range []bool{false, true} {
		a, b := impl.Host{Name: "a", Up: up}, impl.Host{Name: "b", Up: true}
		all = append(all, healthOf(1, 1, a), healthOf(1, 1, a, b), healthOf(1, 1, a, downAt("b", 0)))
	}
	for _, numbers := range smallLists(4, 0, len(one)-1) {
		p := policyOf("ex.com")
		for _, n := range numbers {
			p.Targets = append(p.Targets, one[n])
		}
		checkPolicy(t, p)
		for _, h := range all {
			checkCandidates(t, p, h)
			draws, _ := wantAllDraws(p, h)
			for draw := -1; draw <= len(draws); draw++ {
				checkDraw(t, p, h, draw)
			}
		}
		if t.Failed() {
			return
		}
	}
}

// All that may be wrong, and just not yet, about each field of two targets.
func TestAllEdgesOfTargets(t *testing.T) {
	var one []impl.Target
	for _, host := range []string{"", "*", "a", "A", name60, name60 + "c"} {
		for _, data := range []string{"1.2.3.4", "255.0.0.0", "256.0.0.0", "a.b", ""} {
			one = append(one, impl.Target{Host: host, Data: data, Weight: 1})
		}
	}
	for group := -1; group <= mostGroup+1; group++ {
		for _, weight := range []int{-1, 0, 1, 2, mostWeight, mostWeight + 1} {
			one = append(one, targetAt("a", group, weight))
		}
	}
	h := healthOf(2, 2, downAt("a", 1), upAt("*", 0))
	for _, name := range []string{"", "*", "a", "A"} {
		for _, a := range one {
			for _, b := range append(one, a) {
				p := policyOf(name, a, b)
				checkPolicy(t, p)
				checkCandidates(t, p, h)
				checkDraw(t, p, h, 3)
			}
			if t.Failed() {
				return
			}
		}
	}
}

func TestPoliciesAnswerAtWildArguments(t *testing.T) {
	edges := append(wildInts(), 0, 1, 9, 10, 50, 51, 600, 7200, mostCounter, mostCounter+1)
	texts := []string{"", "a", "*", "A", ".", "1.1.1.1", "\x00", "\xff", name60, name60 + "c", strings.Repeat("a.", 1<<16), strings.Repeat("1.", 1<<16)}
	for _, a := range edges {
		for _, b := range edges {
			for _, s := range texts {
				h := healthOf(2, 2, downAt("a", 0), upAt(s, 0))
				for _, targets := range [][]impl.Target{nil, {}, {{}}, {targetAt("a", a, b)}, {targetAt("a", 0, 1), targetAt("b", a, b)}, {{Host: s, Data: s, Group: a, Weight: b}}} {
					p := impl.Policy{Name: s, Targets: targets}
					checkPolicy(t, p)
					checkCandidates(t, p, h)
					checkDraw(t, p, h, a)
				}
			}
			p := policyOf("ex.com", targetAt("a", 0, 7), targetAt("b", 1, 3))
			checkCandidates(t, p, impl.Health{Rise: a, Fall: b, Hosts: []impl.Host{upAt("a", 0)}})
			checkDraw(t, p, impl.Health{Rise: 5, Fall: 5, Hosts: []impl.Host{upAt("a", a)}}, b)
			checkDraw(t, p, allWell(), b)
		}
		for _, many := range []int{12, 13, 1 << 10} {
			checkPolicy(t, impl.Policy{Targets: make([]impl.Target, many)})
			checkCandidates(t, impl.Policy{Targets: make([]impl.Target, many)}, impl.Health{Hosts: make([]impl.Host, many)})
			checkDraw(t, impl.Policy{Targets: make([]impl.Target, many)}, allWell(), a)
		}
	}
}

// withSpareTargets puts targets behind a list, in its memory.
func withSpareTargets(p impl.Policy, spare ...impl.Target) impl.Policy {
	p.Targets = append(slices.Clone(p.Targets), spare...)[:len(p.Targets)]
	return p
}

// What lies behind targets or hosts would be told, or be too much: it does not count, and stays.
func TestNoPolicyIsWrittenInto(t *testing.T) {
	r := rand.New(rand.NewSource(145))
	for range 300 {
		health := randomHealth(r)
		p := randomPolicy(r, health)
		h := withSpareHosts(health, downAt(p.Targets[0].Host, 0), upAt("spare", 0))
		for _, tried := range []impl.Policy{p, damagedPolicy(r, p), policyOf(p.Name), {}} {
			for _, spare := range [][]impl.Target{{targetAt("spare", 0, 1)}, {{}, targetAt("A", -1, 0)}, make([]impl.Target, 12)} {
				given := withSpareTargets(tried, spare...)
				before, hostsBefore := slices.Clone(given.Targets[:cap(given.Targets)]), slices.Clone(h.Hosts[:cap(h.Hosts)])
				checkPolicy(t, given)
				checkCandidates(t, given, h)
				checkDraw(t, given, h, r.Intn(mostCounter))
				if !slices.Equal(given.Targets[:cap(given.Targets)], before) || !slices.Equal(h.Hosts[:cap(h.Hosts)], hostsBefore) {
					t.Errorf("%v or %v was written into", before, hostsBefore)
				}
			}
		}
	}
}

// freshPolicy lies in memory of its own.
func freshPolicy(p impl.Policy) impl.Policy {
	p = policyOf(strings.Clone(p.Name), p.Targets...)
	for i, to := range p.Targets {
		p.Targets[i].Host, p.Targets[i].Data = strings.Clone(to.Host), strings.Clone(to.Data)
	}
	return p
}

// Each answer is written over up to its end in memory: neither what was given nor another answer may change by that.
func TestPolicyAnswersShareNoMemory(t *testing.T) {
	r := rand.New(rand.NewSource(146))
	for range 500 {
		h := freshHealth(randomHealth(r))
		p := freshPolicy(randomPolicy(r, h))
		before, healthBefore := freshPolicy(p), freshHealth(h)
		ask := func() [][]int {
			numbers, ok := impl.CandidatesOf(p, h)
			shares, _, _ := impl.SharesOf(p, h)
			groups, _ := impl.GroupsIn(p)
			if !ok {
				t.Fatal("nothing is told", p, h)
			}
			return [][]int{numbers, shares, groups}
		}
		told, again := ask(), ask()
		for _, l := range told {
			wantZerosBehind(t, l)
			writeOver(l, 77)
		}
		numbers, _ := wantCandidates(p, h)
		shares, _, _ := wantShares(p, h)
		groups, _ := wantGroupsIn(p)
		for i, want := range [][]int{numbers, shares, groups} {
			if !slices.Equal(again[i], want) {
				t.Errorf("an answer shares memory with one told ahead: %v, not %v", again[i], want)
			}
		}
		answer, _ := impl.AnswerOf(p, h, r.Intn(mostCounter))
		wantApart(t, []string{answer.Name, answer.Data}, append(textsOfPolicy(p), namesOfHosts(h.Hosts)...)...)
		wantApart(t, []string{answer.Name}, answer.Data)
		if !alikePolicies(p, before) || !alikeHealth(h, healthBefore) {
			t.Errorf("an answer shares memory with %v or %v", before, healthBefore)
		}
	}
}

// A policy whose texts lie in one memory is told in memory apart from it.
func TestAPolicyOfOneMemory(t *testing.T) {
	whole := strings.Clone("a.1.2.3.4")
	p := impl.Policy{Name: whole, Targets: []impl.Target{{Host: whole[:1], Data: whole[2:], Group: 1, Weight: 1}}}
	got, ok := impl.AnswerOf(p, healthOf(1, 1, downAt(whole[:1], 0)), 0)
	if got != (impl.Record{Name: "a.1.2.3.4", Type: 1, Ttl: 5, Data: "1.2.3.4"}) || !ok {
		t.Error(got, ok)
	}
	wantApart(t, []string{got.Name, got.Data}, whole)
	wantApart(t, []string{got.Name}, got.Data)
}

// What is told hangs on the arguments alone, not on what was asked ahead.
func TestPoliciesAreToldAlikeEachTime(t *testing.T) {
	r := rand.New(rand.NewSource(147))
	p, h := policyOf("www.ex.com", targetAt("a", 0, 3), targetAt("b", 0, 1), targetAt("c", 1, 2)), healthOf(2, 2, downAt("a", 0), upAt("b", 1))
	for range 60 {
		checkPolicy(t, p)
		checkCandidates(t, p, h)
		checkCandidates(t, p, allWell())
		checkDraw(t, p, allWell(), 5)
		checkDraw(t, p, h, 5)
		other := randomHealth(r)
		checkCandidates(t, randomPolicy(r, other), other)
	}
}
