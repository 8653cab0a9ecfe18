package ecn_test

import (
	"math/rand"
	"testing"

	"caravel/api"
	"caravel/ecn"
)

// Every row of few calls, behind as many that were sent as an edge needs.
func TestP18_5Every(t *testing.T) {
	calls := []func(pair){
		func(p pair) { p.sent() },
		func(p pair) { p.lost(1) },
		func(p pair) { p.lost(8) },
		func(p pair) { p.acked(0, counts{1, 0, 0}, true) },
		func(p pair) { p.acked(0, counts{0, 0, 1}, true) },
		func(p pair) { p.acked(1, counts{1, 0, 1}, true) },
		func(p pair) { p.acked(2, counts{2, 0, 1}, true) },
		func(p pair) { p.acked(3, counts{2, 0, 4}, true) },
		func(p pair) { p.acked(0, counts{2, 1, 4}, true) },
		func(p pair) { p.acked(1, counts{2, 0, 1}, false) },
		func(p pair) { p.acked(0, counts{0, 0, 0}, false) },
		func(p pair) { p.acked(0, counts{0, 0, -1}, true) },
	}
	for _, sent := range []int{0, 1, 2, 3, 8, 9, 10} {
		for row := range len(calls) * len(calls) * len(calls) * len(calls) {
			p := newPair(t)
			for range sent {
				p.sent()
			}
			for range 4 {
				calls[row%len(calls)](p)
				row /= len(calls)
			}
			p.looks()
		}
	}
}

// reached counts which edges calls by chance came to: without that they would ask for little.
type reached map[string]int

// note counts what is ahead of an Acked: the state, and why it fails, if just one thing is wrong.
func (r reached) note(p pair, marked int, peer counts, says bool) {
	if marked < 0 || marked > p.m.way() || min(peer[0], peer[1], peer[2]) < 0 || max(peer[0], peer[1], peer[2]) > most {
		r["error"]++
		return
	}
	state := map[int]string{ecn.Testing: "testing", ecn.Unknown: "unknown", ecn.Capable: "capable", ecn.Failed: "failed"}[p.m.state]
	faults := p.m.faults(marked, peer, says)
	switch {
	case p.m.state == ecn.Failed:
		r["failed"]++
	case len(faults) == 1:
		r[state+" "+faults[0]]++
	case len(faults) > 1:
		r[state+" several"]++
	case !says:
		r[state+" quiet"]++
	case marked == 0:
		r[state+" none"]++
	default:
		r[state+" some"]++
	}
	if says && len(faults) == 0 && below(p.m.last[2], whole(peer[2])) {
		r[state+" congested"]++
	}
}

// all asks that each edge was come to.
func (r reached) all(t *testing.T) {
	t.Helper()
	edges := []string{"error", "failed", "lost all ten"}
	for _, state := range []string{"testing ", "unknown ", "capable "} {
		for _, edge := range []string{"quiet", "unsaid", "ect1", "back0", "back2", "less", "above", "several", "none", "some", "congested"} {
			edges = append(edges, state+edge)
		}
	}
	for _, edge := range edges {
		if r[edge] < 10 {
			t.Errorf("%q was come to %d times", edge, r[edge])
		}
	}
}

// peers tells counts by chance: most of them such as are right, some with one thing wrong, a few of any numbers.
func peers(random *rand.Rand, m *model, marked int) counts {
	zero, two, room := number(m.last[0]), number(m.last[2]), number(m.sent)-number(m.last[0])-number(m.last[2])
	grown := min(max(min(marked, room), 0)+random.Intn(2)*random.Intn(3), max(room, 0))
	hurt := 0
	if random.Intn(3) == 0 {
		hurt = random.Intn(grown + 1)
	}
	peer := counts{zero + grown - hurt, 0, two + hurt}
	switch random.Intn(30) {
	case 0:
		peer[1] = 1 + random.Intn(3)
	case 1: // as many together
		peer[0], peer[2] = zero-1, peer[2]+peer[0]-zero+1
	case 2:
		peer[2], peer[0] = two-1, peer[0]+peer[2]-two+1
	case 3:
		peer[0]--
	case 4:
		peer[2] += room + 1 - grown
	case 5:
		peer[0] += room + 1 - grown
	case 6:
		peer[0] += room - grown
	case 7:
		peer[random.Intn(3)] = edge(random)
	case 8:
		peer = counts{edge(random), edge(random), edge(random)}
	}
	return peer
}

func edge(random *rand.Rand) int {
	edges := []int{low, -most, -1, 0, 1, 2, 9, 10, 11, most - 1, most, most + 1, huge - 1, huge}
	return edges[random.Intn(len(edges))]
}

// Validations by chance, each held against the chapter's words.
func TestP18_5Random(t *testing.T) {
	random := rand.New(rand.NewSource(18))
	r := reached{}
	for range 15000 {
		p := newPair(t)
		first := random.Intn(12)
		for range first {
			p.sent()
		}
		greatest := 4 * random.Intn(2) // of some nothing that was marked arrives: they stay unknown for long
		for range 40 {
			marked := random.Intn(min(p.m.way(), greatest) + 1)
			switch random.Intn(40) {
			case 0:
				marked = edge(random)
			case 1, 2:
				marked = p.m.way() + random.Intn(2)
			}
			switch random.Intn(6) {
			case 0, 1, 2:
				p.sent()
			case 3:
				before := p.m.state
				p.lost(marked)
				if before != p.m.state {
					r["lost all ten"]++
				}
			default:
				peer, says := peers(random, p.m, marked), random.Intn(8) > 0
				r.note(p, marked, peer, says)
				p.acked(marked, peer, says)
			}
		}
		p.looks()
	}
	r.all(t)
}

// Some lose nearly all that they send while it is not known whether marks come through.
func TestP18_5RandomLosses(t *testing.T) {
	random := rand.New(rand.NewSource(1818))
	ended := map[int]int{}
	for range 3000 {
		p := newPair(t)
		for range 30 {
			switch random.Intn(4) {
			case 0, 1:
				p.sent()
			case 2:
				p.lost(random.Intn(p.m.way() + 1))
			default:
				p.acked(0, peers(random, p.m, 0), false)
			}
		}
		if random.Intn(10) == 0 && p.m.way() > 0 {
			p.acked(1, counts{1, 0, 0}, true)
		}
		p.lost(p.m.way())
		p.looks()
		ended[p.m.state]++
	}
	for _, state := range []int{ecn.Testing, ecn.Failed, ecn.Capable} {
		if ended[state] < 30 {
			t.Errorf("only %d ended in the state %d", ended[state], state)
		}
	}
}

// net is a network that carries marks, and a peer that counts them: of each packet it is kept whether it was marked.
type net struct {
	t       *testing.T
	random  *rand.Rand
	c       *ecn.Ecn
	flying  []bool // sent, and neither come nor lost for good
	late    []bool // said to be lost, but they may come still
	news    int    // marked packets that have come, and are not acknowledged yet
	counted counts
	told    int // how many were congested when that was told last
}

// send sends a packet; it says whether that was marked.
func (n *net) send() bool {
	marked := n.c.Sent()
	n.flying = append(n.flying, marked)
	return marked
}

// arrive takes the first packet of a list: one that was marked may come as congested.
func (n *net) arrive(list *[]bool, isNew bool) {
	if len(*list) == 0 {
		return
	}
	marked := (*list)[0]
	*list = (*list)[1:]
	if !marked {
		return
	}
	if n.random.Intn(4) == 0 {
		n.counted[2]++
	} else {
		n.counted[0]++
	}
	if isNew {
		n.news++
	}
}

// lose says that the first packet is lost; it may come all the same, and is counted by the peer then.
func (n *net) lose() {
	if len(n.flying) == 0 {
		return
	}
	marked := n.flying[0]
	n.flying = n.flying[1:]
	if n.random.Intn(3) == 0 {
		n.late = append(n.late, marked)
	}
	if marked {
		loses(n.t, n.c, 1)
	}
}

// answer brings an acknowledgement of all that came.
func (n *net) answer() {
	n.t.Helper()
	takes(n.t, n.c, n.news, n.counted, n.counted[2] > n.told)
	n.news, n.told = 0, n.counted[2]
}

// step lets something happen that may happen on a network that carries marks.
func (n *net) step() {
	switch n.random.Intn(10) {
	case 0, 1, 2, 3:
		n.send()
	case 4, 5, 6:
		n.arrive(&n.flying, true)
	case 7:
		n.lose()
	case 8:
		n.arrive(&n.late, false)
	default: // what was told, and did not come, is told again by the next one
		if n.random.Intn(3) > 0 {
			n.answer()
		}
	}
}

// Counts that are right never fail, and tell congestion just when more packets were congested.
func TestP18_5Right(t *testing.T) {
	random := rand.New(rand.NewSource(181818))
	for range 1500 {
		n := &net{t: t, random: random, c: begin(t)}
		n.send()
		n.arrive(&n.flying, true)
		if random.Intn(2) == 0 {
			n.answer()
			is(t, n.c, ecn.Capable)
		}
		for range 150 {
			n.step()
			if n.c.State() == ecn.Failed {
				t.Fatalf("right counts have failed: %+v", *n)
			}
		}
		n.answer()
		is(t, n.c, ecn.Capable) // the first one has arrived
	}
}

// A network that clears marks, or takes all for others, is found out at the first that arrives; from then on all is sent without marks.
func TestP18_5Cleared(t *testing.T) {
	for sent := 1; sent <= 10; sent++ {
		for marked := 1; marked <= sent; marked++ {
			for _, peer := range []counts{{}, {marked - 1, 0, 0}, {0, 0, marked - 1}, {0, marked, 0}, {marked, marked, 0}, {marked, 1, 0}} {
				c := after(t, sent)
				takes(t, c, marked, peer, false)
				mute(t, c)
				onWay(t, c, sent-marked)
			}
			c := after(t, sent)
			quiet(t, c, marked, counts{marked, 0, 0})
			mute(t, c)
			onWay(t, c, sent-marked)
		}
	}
}

// The same calls come to the same answers, whatever else is done between them.
func TestP18_5Again(t *testing.T) {
	row := func(between func()) (list []any) {
		c := begin(t)
		for i := range 14 {
			between()
			list = append(list, c.Sent(), c.State(), c.Lost(i%3-1))
			congested, e := c.Acked(i%2, counts{i / 2, 0, i / 4}, true)
			list = append(list, congested, e, c.State())
		}
		return list
	}
	other := begin(t)
	first := row(func() {})
	second := row(func() { other.Sent(); other.Acked(1, counts{1, 0, 1}, true); other.Lost(1) })
	for i := range first {
		if first[i] != second[i] {
			t.Errorf("answer %d is %v, then %v", i, first[i], second[i])
		}
	}
	if first[2] != api.ErrArg {
		t.Errorf("the first Lost answers %v", first[2])
	}
}
