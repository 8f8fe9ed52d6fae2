package tests

import (
	"fmt"
	"math/rand"
	"slices"
	"testing"

	"loop.example/g00300/impl"
)

// allWell is health that knows of none of the tests' targets.
func allWell() impl.Health {
	return healthOf(2, 2, upAt("nobody.else", 0))
}

// wantPolicyGood tells the policy.
func wantPolicyGood(t *testing.T, p impl.Policy) impl.Policy {
	t.Helper()
	if !impl.GoodPolicy(p) {
		t.Errorf("GoodPolicy(%v) = false", p)
	}
	return p
}

// wantPolicyBad also asks whoever is given a policy.
func wantPolicyBad(t *testing.T, p impl.Policy) {
	t.Helper()
	if impl.GoodPolicy(p) {
		t.Errorf("GoodPolicy(%s) = true", shown(p))
	}
	if groups, ok := impl.GroupsIn(p); len(groups) != 0 || ok {
		t.Errorf("GroupsIn(%s) = %v, %v", shown(p), groups, ok)
	}
	wantNobody(t, p, allWell())
	wantNobody(t, p, healthOf(2, 2, downAt("a", 1), upAt("b", 0)))
}

// wantNobody: neither candidates nor what hangs on them is told.
func wantNobody(t *testing.T, p impl.Policy, h impl.Health) {
	t.Helper()
	if group, ok := impl.GroupOf(p, h); group != 0 || ok {
		t.Errorf("GroupOf(%s, %v) = %d, %v", shown(p), h, group, ok)
	}
	if numbers, ok := impl.CandidatesOf(p, h); len(numbers) != 0 || ok {
		t.Errorf("CandidatesOf(%s, %v) = %v, %v", shown(p), h, numbers, ok)
	}
	if shares, sum, ok := impl.SharesOf(p, h); len(shares) != 0 || sum != 0 || ok {
		t.Errorf("SharesOf(%s, %v) = %v, %d, %v", shown(p), h, shares, sum, ok)
	}
	wantNotChosen(t, p, h, -1, 0, 1, 7, mostCounter, mostCounter+1)
}

func wantNotChosen(t *testing.T, p impl.Policy, h impl.Health, draws ...int) {
	t.Helper()
	for _, draw := range draws {
		if at, ok := impl.ChooseTarget(p, h, draw); at != 0 || ok {
			t.Errorf("ChooseTarget(%s, %v, %d) = %d, %v", shown(p), h, draw, at, ok)
		}
		if r, ok := impl.AnswerOf(p, h, draw); r != (impl.Record{}) || ok {
			t.Errorf("AnswerOf(%s, %v, %d) = %v, %v", shown(p), h, draw, r, ok)
		}
	}
}

// wantCandidatesAre also asks for what hangs on them alone: their group, and the shares.
func wantCandidatesAre(t *testing.T, p impl.Policy, h impl.Health, group int, numbers ...int) {
	t.Helper()
	if got, ok := impl.GroupOf(p, h); got != group || !ok {
		t.Errorf("GroupOf(%v, %v) = %d, %v; want %d", p, h, got, ok, group)
	}
	if got, ok := impl.CandidatesOf(p, h); !slices.Equal(got, numbers) || !ok {
		t.Errorf("CandidatesOf(%v, %v) = %v, %v; want %v", p, h, got, ok, numbers)
	}
	shares, sum := make([]int, len(p.Targets)), 0
	for _, number := range numbers {
		shares[number] = p.Targets[number].Weight
		sum += shares[number]
	}
	if got, all, ok := impl.SharesOf(p, h); !slices.Equal(got, shares) || all != sum || !ok {
		t.Errorf("SharesOf(%v, %v) = %v, %d, %v; want %v, %d", p, h, got, all, ok, shares, sum)
	}
}

func wantChosenIs(t *testing.T, p impl.Policy, h impl.Health, draw, at int) {
	t.Helper()
	if got, ok := impl.ChooseTarget(p, h, draw); got != at || !ok {
		t.Errorf("ChooseTarget(%v, %v, %d) = %d, %v; want %d", p, h, draw, got, ok, at)
	}
	want := impl.Record{Name: p.Name, Type: 1, Ttl: 5, Data: p.Targets[at].Data}
	if got, ok := impl.AnswerOf(p, h, draw); got != want || !ok || !impl.GoodRecord(got) {
		t.Errorf("AnswerOf(%v, %v, %d) = %v, %v; want %v", p, h, draw, got, ok, want)
	}
}

// wantDraws are the targets of all draws from 0 on, with which they begin anew.
func wantDraws(t *testing.T, p impl.Policy, h impl.Health, targets ...int) {
	t.Helper()
	for draw, at := range slices.Concat(targets, targets) {
		wantChosenIs(t, p, h, draw, at)
	}
	wantChosenIs(t, p, h, mostCounter, targets[mostCounter%len(targets)])
	wantChosenIs(t, p, h, mostCounter-1, targets[(mostCounter-1)%len(targets)])
	wantNotChosen(t, p, h, append(wildInts(), -2, mostCounter+1, mostCounter+2)...)
}

func wantGroupsAre(t *testing.T, p impl.Policy, groups ...int) {
	t.Helper()
	if got, ok := impl.GroupsIn(p); !slices.Equal(got, groups) || !ok {
		t.Errorf("GroupsIn(%v) = %v, %v; want %v", p, got, ok, groups)
	}
}

func TestPolicyConstants(t *testing.T) {
	if impl.MaxTargets != mostTargets {
		t.Error(impl.MaxTargets)
	}
}

func TestNamesOfPolicies(t *testing.T) {
	for _, name := range goodNames() {
		p := wantPolicyGood(t, policyOf(name, targetAt("a", 3, 7)))
		wantGroupsAre(t, p, 3)
		wantCandidatesAre(t, p, allWell(), 3, 0)
		wantDraws(t, p, allWell(), 0, 0, 0, 0, 0, 0, 0)
	}
	wantPolicyGood(t, policyOf("", targetAt("a", 3, 7)))
	wantPolicyGood(t, policyOf("*", targetAt("a", 3, 7)))
	wantPolicyGood(t, policyOf("*.ex.com", targetAt("a", 3, 7)))
	for _, name := range badNames() {
		wantPolicyBad(t, policyOf(name, targetAt("a", 3, 7)))
	}
}

func TestHostsOfTargets(t *testing.T) {
	for _, name := range goodNames() {
		p := wantPolicyGood(t, policyOf("ex.com", targetAt(name, 3, 2)))
		wantCandidatesAre(t, p, allWell(), 3, 0)
		wantDraws(t, p, allWell(), 0, 0)
	}
	for _, name := range badNames() {
		wantPolicyBad(t, policyOf("ex.com", targetAt(name, 3, 2)))
		wantPolicyBad(t, policyOf("ex.com", targetAt("a", 3, 2), targetAt(name, 9, 2)))
	}
	// The host is not told: what it is named hangs with neither the policy's name nor its data.
	wantDraws(t, policyOf("a", targetAt("a", 3, 1)), allWell(), 0)
}

func TestDataOfTargets(t *testing.T) {
	with := func(data string) impl.Policy {
		return policyOf("ex.com", impl.Target{Host: "a", Data: data, Group: 1, Weight: 1})
	}
	for _, pair := range goodData()[1] {
		wantDraws(t, wantPolicyGood(t, with(pair[0])), allWell(), 0)
	}
	for _, data := range badData()[1] {
		wantPolicyBad(t, with(data))
	}
	// What other types ask for is no address.
	for _, kind := range []int{5, 6, 15, 16} {
		for _, pair := range goodData()[kind] {
			if pair[0] != "1.2.3.4" {
				wantPolicyBad(t, with(pair[0]))
			}
		}
	}
	wantPolicyBad(t, with("a"))
}

func TestGroupsOfTargets(t *testing.T) {
	for group := range 10 {
		p := wantPolicyGood(t, policyOf("ex.com", targetAt("a", group, 1)))
		wantGroupsAre(t, p, group)
		wantCandidatesAre(t, p, allWell(), group, 0)
	}
	for _, group := range append(wildInts(), -2, 10, 11, 256) {
		wantPolicyBad(t, policyOf("ex.com", targetAt("a", group, 1)))
		wantPolicyBad(t, policyOf("ex.com", targetAt("a", 0, 1), targetAt("b", group, 1)))
	}
}

func TestWeightsOfTargets(t *testing.T) {
	for weight := 1; weight <= 50; weight++ {
		p := wantPolicyGood(t, policyOf("ex.com", targetAt("a", 0, weight)))
		wantCandidatesAre(t, p, allWell(), 0, 0)
		wantDraws(t, p, allWell(), make([]int, weight)...)
	}
	for _, weight := range append(wildInts(), 0, -2, 51, 52, 600) {
		wantPolicyBad(t, policyOf("ex.com", targetAt("a", 0, weight)))
		// Neither another one of its group nor one of another group makes up for it.
		wantPolicyBad(t, policyOf("ex.com", targetAt("a", 0, 1), targetAt("b", 0, weight)))
		wantPolicyBad(t, policyOf("ex.com", targetAt("a", 0, weight), targetAt("b", 9, 50)))
	}
}

func TestHowManyTargets(t *testing.T) {
	wantPolicyBad(t, impl.Policy{})
	wantPolicyBad(t, policyOf("ex.com"))
	wantPolicyBad(t, impl.Policy{Name: "ex.com", Targets: []impl.Target{}})
	for many := 1; many <= 12; many++ {
		p := wantPolicyGood(t, policyOf("ex.com", targetsOf(many, 4, 50)...))
		var all []int
		for i := range many {
			all = append(all, i)
		}
		wantCandidatesAre(t, p, allWell(), 4, all...)
	}
	wantPolicyBad(t, policyOf("ex.com", targetsOf(13, 4, 1)...))
	wantPolicyBad(t, policyOf("ex.com", targetsOf(300, 4, 1)...))
	wantPolicyBad(t, impl.Policy{Name: "ex.com", Targets: make([]impl.Target, 12)})
	wantPolicyBad(t, impl.Policy{Name: "ex.com", Targets: make([]impl.Target, 1<<12)})
}

// One bad target is enough, wherever it stands.
func TestEachTargetIsAsSaid(t *testing.T) {
	bad := []impl.Target{{}, targetAt("A", 0, 1), targetAt("a", -1, 1), targetAt("a", 10, 1), targetAt("a", 0, 0), targetAt("a", 0, 51), {Host: "a", Weight: 1}}
	for at := range mostTargets {
		for _, to := range bad {
			p := policyOf("ex.com", targetsOf(12, 4, 3)...)
			p.Targets[at] = to
			wantPolicyBad(t, p)
		}
	}
}

// Two targets may be of one host, and alike in all else: they are two candidates.
func TestTargetsAlike(t *testing.T) {
	p := wantPolicyGood(t, policyOf("ex.com", targetAt("a", 0, 1), targetAt("a", 0, 1), targetAt("a", 2, 1)))
	wantCandidatesAre(t, p, healthOf(2, 2, upAt("a", 0)), 0, 0, 1)
	wantCandidatesAre(t, p, healthOf(2, 2, downAt("a", 0)), 0, 0, 1)
	wantDraws(t, p, allWell(), 0, 0, 1, 1)
	wantPolicyGood(t, policyOf("ex.com", slices.Repeat([]impl.Target{targetAt("", 0, 1)}, 12)...))
	p = policyOf("ex.com", targetAt("a", 0, 1), targetAt("b", 0, 1), targetAt("a", 1, 1), targetAt("a", 0, 5))
	wantCandidatesAre(t, p, healthOf(2, 2, upAt("b", 0), downAt("a", 0)), 0, 1)
	wantCandidatesAre(t, p, healthOf(2, 2, downAt("b", 0), upAt("a", 0)), 0, 0, 3)
}

func TestTheLeastGroupThatIsWell(t *testing.T) {
	p := policyOf("www.ex.com", targetAt("a", 4, 3), targetAt("b", 4, 1), targetAt("c", 2, 5), targetAt("d", 9, 2), targetAt("e", 2, 7))
	wantCandidatesAre(t, p, healthOf(1, 1, upAt("a", 0), upAt("b", 0), upAt("c", 0), upAt("d", 0), upAt("e", 0)), 2, 2, 4)
	wantCandidatesAre(t, p, healthOf(1, 1, downAt("c", 0), upAt("e", 0)), 2, 4)
	wantCandidatesAre(t, p, healthOf(1, 1, downAt("c", 0), downAt("e", 0)), 4, 0, 1)
	wantCandidatesAre(t, p, healthOf(1, 1, downAt("c", 0), downAt("e", 0), downAt("a", 0)), 4, 1)
	wantCandidatesAre(t, p, healthOf(1, 1, downAt("c", 0), downAt("e", 0), downAt("b", 0)), 4, 0)
	wantCandidatesAre(t, p, healthOf(1, 1, downAt("a", 0), downAt("b", 0), downAt("c", 0), downAt("e", 0)), 9, 3)
	// A greater group that is down changes nothing.
	wantCandidatesAre(t, p, healthOf(1, 1, downAt("a", 0), downAt("b", 0), downAt("d", 0)), 2, 2, 4)
	// Where nobody is well in any group it is as if all were.
	wantCandidatesAre(t, p, healthOf(1, 1, downAt("a", 0), downAt("b", 0), downAt("c", 0), downAt("d", 0), downAt("e", 0)), 2, 2, 4)
}

// All ways in which six targets of three groups may be up, down or unknown.
func TestAllWaysToBeWell(t *testing.T) {
	groups := []int{7, 1, 3, 1, 7, 3}
	p := policyOf("www.ex.com")
	for i, group := range groups {
		p.Targets = append(p.Targets, targetAt(hostNames(6)[i], group, i+1))
	}
	for _, states := range smallLists(6, 0, 2) {
		if len(states) < 6 {
			continue
		}
		h, well := allWell(), map[int][]int{}
		for i, state := range states {
			if state < 2 {
				h.Hosts = append(h.Hosts, impl.Host{Name: hostNames(6)[i], Up: state == 1})
			}
			if state > 0 {
				well[groups[i]] = append(well[groups[i]], i)
			}
		}
		switch {
		case well[1] != nil:
			wantCandidatesAre(t, p, h, 1, well[1]...)
		case well[3] != nil:
			wantCandidatesAre(t, p, h, 3, well[3]...)
		case well[7] != nil:
			wantCandidatesAre(t, p, h, 7, well[7]...)
		default:
			wantCandidatesAre(t, p, h, 1, 1, 3)
		}
	}
}

// A host that the health does not know is well, and it is known by its whole name alone.
func TestHostsThatAreNotKnown(t *testing.T) {
	p := policyOf("www.ex.com", targetAt("a.ex.com", 1, 3), targetAt("b.ex.com", 1, 4), targetAt("c.ex.com", 2, 5))
	wantCandidatesAre(t, p, healthOf(3, 3, downAt("a.ex.com", 2)), 1, 1)
	wantCandidatesAre(t, p, healthOf(3, 3, downAt("b.ex.com", 0)), 1, 0)
	wantCandidatesAre(t, p, healthOf(3, 3, downAt("a.ex.com", 2), downAt("b.ex.com", 1)), 2, 2)
	wantCandidatesAre(t, p, healthOf(3, 3, downAt("*.ex.com", 2), downAt("ex.com", 1), downAt("a", 0), downAt("x.a.ex.com", 0), downAt("www.ex.com", 0)), 1, 0, 1)
	star := policyOf("www.ex.com", targetAt("*.ex.com", 0, 3), targetAt("a.ex.com", 5, 4))
	wantCandidatesAre(t, star, healthOf(3, 3, downAt("a.ex.com", 2)), 0, 0)
	wantCandidatesAre(t, star, healthOf(3, 3, downAt("*.ex.com", 2)), 5, 1)
	wantCandidatesAre(t, star, healthOf(3, 3, downAt("*.ex.com", 2), downAt("a.ex.com", 2)), 0, 0)
	wantCandidatesAre(t, star, healthOf(3, 3, upAt("*.ex.com", 2), downAt("a.ex.com", 2)), 0, 0)
	// No health knows of the root: a target there is always well.
	root := policyOf("", targetAt("a", 0, 3), targetAt("", 7, 4))
	wantCandidatesAre(t, root, healthOf(3, 3, upAt("a", 2)), 0, 0)
	wantCandidatesAre(t, root, healthOf(3, 3, downAt("a", 2)), 7, 1)
}

// A row that speaks against what is told is no change yet.
func TestRowsDoNotCount(t *testing.T) {
	p := policyOf("www.ex.com", targetAt("a", 0, 3), targetAt("b", 1, 4))
	for row := range 10 {
		wantCandidatesAre(t, p, healthOf(10, 10, upAt("a", row), upAt("b", 0)), 0, 0)
		wantCandidatesAre(t, p, healthOf(10, 10, downAt("a", row), upAt("b", 9)), 1, 1)
		wantCandidatesAre(t, p, healthOf(10, 10, downAt("a", row), downAt("b", 9)), 0, 0)
	}
	// Three probes that are not Fine make a host fall, two that are make it rise: the group changes with these alone.
	h, _ := impl.NewHealth(2, 3, []string{"b", "a"})
	for i, group := range []int{0, 0, 1, 1, 0} {
		h, _, _ = impl.TakeProbe(h, impl.Probe{Host: 1, Fine: i >= 3})
		wantCandidatesAre(t, p, h, group, group)
	}
}

func TestHealthThatIsNotGood(t *testing.T) {
	p := wantPolicyGood(t, policyOf("www.ex.com", targetAt("a", 0, 3), targetAt("b", 1, 4)))
	for _, h := range []impl.Health{
		{}, healthOf(2, 2), {Rise: 2, Fall: 2, Hosts: []impl.Host{}}, healthOf(2, 2, impl.Host{}), healthOf(2, 2, upAt("", 0)), healthOf(2, 2, upAt("A", 0)),
		healthOf(0, 2, upAt("a", 0)), healthOf(2, 11, upAt("a", 0)), healthOf(2, 2, upAt("a", 2)), healthOf(2, 2, downAt("a", -1)),
		healthOf(2, 2, upAt("a", 0), downAt("a", 0)), healthOf(2, 2, upAt("c", 0), upAt("d", 9)), {Rise: 2, Fall: 2, Hosts: make([]impl.Host, 13)},
	} {
		wantNobody(t, p, h)
		wantNobody(t, impl.Policy{}, h)
	}
	var hosts []impl.Host
	for _, name := range hostNames(13) {
		hosts = append(hosts, upAt(name, 0))
	}
	wantNobody(t, p, healthOf(2, 2, hosts...))
	wantCandidatesAre(t, p, healthOf(2, 2, hosts[:12]...), 0, 0)
	for _, wild := range wildInts() {
		wantNobody(t, p, healthOf(wild, 2, upAt("a", 0)))
		wantNobody(t, p, healthOf(2, wild, upAt("a", 0)))
		wantNobody(t, p, healthOf(2, 2, upAt("a", wild)))
	}
	// GroupsIn asks for no health.
	wantGroupsAre(t, p, 0, 1)
}

func TestCandidatesByHand(t *testing.T) {
	one := policyOf("www.ex.com", targetAt("a", 9, 50))
	wantCandidatesAre(t, one, allWell(), 9, 0)
	wantCandidatesAre(t, one, healthOf(2, 2, upAt("a", 1)), 9, 0)
	wantCandidatesAre(t, one, healthOf(2, 2, downAt("a", 1)), 9, 0)
	// Of all twelve one alone, at each place, is well, or is of the least group.
	for at := range mostTargets {
		p := policyOf("www.ex.com", targetsOf(12, 5, 1, 50, 7)...)
		h := healthOf(2, 2)
		for _, to := range p.Targets {
			h.Hosts = append(h.Hosts, downAt(to.Host, 0))
		}
		h.Hosts[at].Up = true
		wantCandidatesAre(t, p, h, 5, at)
		p.Targets[at].Group = 4
		wantCandidatesAre(t, p, allWell(), 4, at)
		h.Hosts[at].Up = false
		wantCandidatesAre(t, p, h, 4, at)
		p.Targets[at].Group = 6
		h.Hosts[at].Up = true
		wantCandidatesAre(t, p, h, 6, at)
	}
	// Targets of other groups stand between, ahead and behind.
	p := policyOf("www.ex.com", targetsOf(12, 5, 1, 50, 7)...)
	for i, group := range []int{8, 2, 5, 2, 2, 8, 5, 2, 9, 2, 5, 8} {
		p.Targets[i].Group = group
	}
	wantCandidatesAre(t, p, allWell(), 2, 1, 3, 4, 7, 9)
	h := healthOf(2, 2)
	for _, at := range []int{1, 3, 4, 7, 9} {
		h.Hosts = append(h.Hosts, downAt(p.Targets[at].Host, 0))
	}
	wantCandidatesAre(t, p, h, 5, 2, 6, 10)
	h.Hosts[2].Up = true
	wantCandidatesAre(t, p, h, 2, 4)
	h.Hosts = append(h.Hosts, downAt(p.Targets[6].Host, 0))
	h.Hosts[2].Up = false
	wantCandidatesAre(t, p, h, 5, 2, 10)
}

func TestDrawsByHand(t *testing.T) {
	p := policyOf("www.ex.com", targetAt("a", 0, 3), targetAt("b", 0, 1), targetAt("c", 1, 2), targetAt("d", 1, 1))
	// The columns are Keep 4 of the first one, and Keep 2 of the second one, the other 2 being the first one's.
	wantDraws(t, p, allWell(), 0, 0, 0, 0, 1, 1, 0, 0)
	wantDraws(t, p, healthOf(1, 1, downAt("a", 0)), 1)
	wantDraws(t, p, healthOf(1, 1, downAt("b", 0)), 0, 0, 0)
	// Six draws, of which 2^60 is not a multiple: it falls on the one with the number 4.
	wantDraws(t, p, healthOf(1, 1, downAt("a", 0), downAt("b", 0)), 2, 2, 2, 3, 3, 2)
	wantChosenIs(t, p, healthOf(1, 1, downAt("a", 0), downAt("b", 0)), 1<<60, 3)
	wantChosenIs(t, p, healthOf(1, 1, downAt("a", 0), downAt("b", 0)), 1<<60-1, 3)
	wantChosenIs(t, p, healthOf(1, 1, downAt("a", 0), downAt("b", 0)), 1<<60-2, 2)
	wantNotChosen(t, p, healthOf(1, 1, downAt("a", 0), downAt("b", 0)), 1<<60+1, 1<<61, -1)
	wantDraws(t, p, healthOf(1, 1, downAt("a", 0), downAt("b", 0), downAt("d", 0)), 2, 2)
	wantDraws(t, p, healthOf(1, 1, downAt("a", 0), downAt("b", 0), downAt("c", 0), downAt("d", 0)), 0, 0, 0, 0, 1, 1, 0, 0)
	// Those that are not candidates stand ahead and between, and take no draw away.
	q := policyOf("", targetAt("x", 3, 50), targetAt("a", 1, 1), targetAt("y", 2, 9), targetAt("b", 1, 2), targetAt("z", 9, 1))
	wantDraws(t, q, allWell(), 1, 1, 3, 3, 3, 3)
	wantDraws(t, policyOf("*", targetAt("a", 0, 1), targetAt("b", 0, 1), targetAt("c", 0, 1)), allWell(), 0, 0, 0, 1, 1, 1, 2, 2, 2)
}

// wantEachInItsPart goes through all draws below how many candidates there are times what they weigh together.
func wantEachInItsPart(t *testing.T, p impl.Policy, h impl.Health) {
	t.Helper()
	numbers, ok := impl.CandidatesOf(p, h)
	shares, sum, good := impl.SharesOf(p, h)
	if !ok || !good {
		t.Fatalf("nothing is told of %v by %v", p, h)
	}
	often := make([]int, len(p.Targets))
	for draw := range len(numbers) * sum {
		at, ok := impl.ChooseTarget(p, h, draw)
		if !ok || !slices.Contains(numbers, at) {
			t.Fatalf("ChooseTarget(%v, %v, %d) = %d, %v, which is no candidate", p, h, draw, at, ok)
		}
		often[at]++
	}
	for i, share := range shares {
		if often[i] != share*len(numbers) {
			t.Errorf("%v, %v: %d is chosen %d times, %d in %d is its part", p, h, i, often[i], share, sum)
		}
	}
}

// Promise 14: over all draws each candidate in the part that it weighs, and nobody else at all.
func TestEachCandidateInItsPart(t *testing.T) {
	for _, weights := range [][]int{{1}, {50}, {1, 50}, {50, 1}, {1, 1, 1}, {7, 1, 13, 2}, {50, 50, 49}} {
		for _, many := range []int{1, 2, 3, 12} {
			wantEachInItsPart(t, policyOf("www.ex.com", targetsOf(many, 3, weights...)...), allWell())
		}
	}
	r := rand.New(rand.NewSource(141))
	several := 0
	for range 150 {
		h := randomHealth(r)
		p := randomPolicy(r, h)
		if numbers, _ := impl.CandidatesOf(p, h); len(numbers) > 1 {
			several++
		}
		wantEachInItsPart(t, p, h)
	}
	if several < 50 {
		t.Error("nearly all have one candidate alone", several)
	}
}

// Promise 14, told from what is known of hosts alone: who is chosen is of the least group, as far as anyone is well there, and well himself.
func TestWhoIsChosenIsACandidate(t *testing.T) {
	r := rand.New(rand.NewSource(142))
	seen := map[string]int{}
	for range 2000 {
		h := randomHealth(r)
		p := randomPolicy(r, h)
		isWell := func(to impl.Target) bool {
			up, known := impl.IsUp(h, to.Host)
			return up || !known
		}
		draw := r.Intn(mostCounter)
		at, ok := impl.ChooseTarget(p, h, draw)
		if !ok {
			t.Fatalf("ChooseTarget(%v, %v, %d) = false", p, h, draw)
		}
		chosen, anyone := p.Targets[at], slices.ContainsFunc(p.Targets, isWell)
		for _, to := range p.Targets {
			if to.Group < chosen.Group && (isWell(to) || !anyone) {
				t.Errorf("ChooseTarget(%v, %v, %d) = %d, though %v is ahead", p, h, draw, at, to)
			}
		}
		if anyone && !isWell(chosen) {
			t.Errorf("ChooseTarget(%v, %v, %d) = %d, who is not well", p, h, draw, at)
		}
		seen[fmt.Sprint(anyone, chosen.Group == slices.Min(groupsOf(p)))]++
	}
	if len(seen) != 3 || min(seen["true true"], seen["true false"], seen["false true"]) < 100 {
		t.Error("the policies are all of one kind", seen)
	}
}

func groupsOf(p impl.Policy) []int {
	var groups []int
	for _, to := range p.Targets {
		groups = append(groups, to.Group)
	}
	return groups
}

// Draws begin anew behind the last one, up to 2^60.
func TestDrawsBeginAnew(t *testing.T) {
	r := rand.New(rand.NewSource(143))
	for range 500 {
		h := randomHealth(r)
		p := randomPolicy(r, h)
		numbers, _ := impl.CandidatesOf(p, h)
		_, sum, _ := impl.SharesOf(p, h)
		for _, draw := range []int{0, 1, len(numbers)*sum - 1, len(numbers) * sum, r.Intn(1 << 20), r.Intn(mostCounter), mostCounter - 1, mostCounter} {
			at, ok := impl.ChooseTarget(p, h, draw%(len(numbers)*sum))
			if !ok {
				t.Fatalf("nothing is told of %v by %v", p, h)
			}
			wantChosenIs(t, p, h, draw, at)
		}
		wantNotChosen(t, p, h, -1, -len(numbers)*sum, mostCounter+1, mostCounter+len(numbers)*sum)
	}
}

// What is drawn goes by the order in which the targets stand, not by their names, data or groups.
func TestTheOrderOfTargetsCounts(t *testing.T) {
	a, b := targetAt("a", 0, 1), targetAt("b", 0, 2)
	wantDraws(t, policyOf("ex.com", a, b), allWell(), 0, 0, 1, 1, 1, 1)
	wantDraws(t, policyOf("ex.com", b, a), allWell(), 0, 0, 0, 1, 1, 0)
}

func TestGroupsIn(t *testing.T) {
	with := func(groups ...int) impl.Policy {
		p := policyOf("ex.com")
		for i, group := range groups {
			p.Targets = append(p.Targets, targetAt(hostNames(13)[i], group, 1+i))
		}
		return p
	}
	wantGroupsAre(t, with(0), 0)
	wantGroupsAre(t, with(9), 9)
	wantGroupsAre(t, with(1, 2), 1, 2)
	wantGroupsAre(t, with(2, 1), 1, 2)
	wantGroupsAre(t, with(3, 3), 3)
	wantGroupsAre(t, with(9, 0, 9, 5, 0, 5), 0, 5, 9)
	wantGroupsAre(t, with(9, 8, 7, 6, 5, 4, 3, 2, 1, 0), 0, 1, 2, 3, 4, 5, 6, 7, 8, 9)
	wantGroupsAre(t, with(9, 0, 8, 1, 7, 2, 6, 3, 5, 4, 9, 0), 0, 1, 2, 3, 4, 5, 6, 7, 8, 9)
	wantGroupsAre(t, with(4, 4, 4, 4, 4, 4, 4, 4, 4, 4, 4, 4), 4)
	wantPolicyBad(t, with(4, 4, 4, 4, 4, 4, 4, 4, 4, 4, 4, 4, 4))
	wantPolicyBad(t, with(1, 2, -1))
	wantPolicyBad(t, with(10, 2, 1))
}

func TestAnswerOf(t *testing.T) {
	p := policyOf("www.ex.com", impl.Target{Host: "a", Data: "1.1.1.1", Weight: 3}, impl.Target{Host: "b", Data: "2.2.2.2", Weight: 1})
	for _, name := range []string{"www.ex.com", "", "*", "*.ex.com", name60, labels8} {
		p.Name = name
		for draw, data := range map[int]string{0: "1.1.1.1", 4: "2.2.2.2", 7: "1.1.1.1", 13: "2.2.2.2", 1 << 60: "1.1.1.1"} {
			want := impl.Record{Name: name, Type: impl.TypeA, Ttl: 5, Data: data}
			if got, ok := impl.AnswerOf(p, allWell(), draw); got != want || !ok {
				t.Errorf("AnswerOf(%v, %d) = %v, %v; want %v", p, draw, got, ok, want)
			}
		}
	}
	// Two that are told alike are two records' worth of draws all the same.
	p = policyOf("a", targetAt("a", 0, 1), targetAt("b", 0, 1))
	p.Targets[1].Data = p.Targets[0].Data
	wantDraws(t, p, allWell(), 0, 0, 1, 1)
	got, _ := impl.AnswerOf(p, allWell(), 0)
	if text, ok := impl.RecordText(got); text != "a 5 1 "+dataFor("a") || !ok {
		t.Error(text, ok)
	}
}
