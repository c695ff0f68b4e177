package search

// none: there is no such end.
const none = -1

// goal: the step at which a stretch has been matched.
const goal = 0

// step: where a walk through a pattern may stand. With one, it goes on behind a rune that one takes; with edge, it goes on where edge stands; with neither, it goes on to any of next.
type step struct {
	one  single
	edge edge
	next []int
}

// track: the steps of a pattern.
type track struct {
	steps []step
	first int
	order []int // all steps, each behind those to which it goes on without a rune
}

func laid(whole group) track {
	t := track{steps: make([]step, 1)}
	t.first = whole.lay(&t, goal)
	seen := make([]bool, len(t.steps))
	for k := range t.steps {
		t.put(k, seen)
	}
	return t
}

// put puts a step into the order, behind those that it leans on. It comes to an end since nothing leads back to itself without a rune: what is hollow is never repeated.
func (t *track) put(k int, seen []bool) {
	if seen[k] {
		return
	}
	seen[k] = true
	if t.steps[k].one == nil {
		for _, n := range t.steps[k].next {
			t.put(n, seen)
		}
	}
	t.order = append(t.order, k)
}

func (t *track) add(s step) int {
	t.steps = append(t.steps, s)
	return len(t.steps) - 1
}

func (t *track) addOne(x single, next int) int {
	return t.add(step{one: x, next: []int{next}})
}

func (t *track) addEdge(x edge, next int) int {
	return t.add(step{edge: x, next: []int{next}})
}

// addLoop: a step that goes on to next or to the atom, which comes back to it; and the atom's first step.
func (t *track) addLoop(atom node, next int) (fork, first int) {
	fork = t.add(step{})
	first = atom.lay(t, fork)
	t.steps[fork].next = []int{first, next}
	return fork, first
}

func (x literal) lay(t *track, next int) int   { return t.addOne(x, next) }
func (x anyRune) lay(t *track, next int) int   { return t.addOne(x, next) }
func (x digit) lay(t *track, next int) int     { return t.addOne(x, next) }
func (x blank) lay(t *track, next int) int     { return t.addOne(x, next) }
func (x wordRune) lay(t *track, next int) int  { return t.addOne(x, next) }
func (x class) lay(t *track, next int) int     { return t.addOne(x, next) }
func (x lineBegin) lay(t *track, next int) int { return t.addEdge(x, next) }
func (x lineEnd) lay(t *track, next int) int   { return t.addEdge(x, next) }
func (x wordEdge) lay(t *track, next int) int  { return t.addEdge(x, next) }

func (x group) lay(t *track, next int) int {
	var firsts []int
	for _, b := range x {
		firsts = append(firsts, b.lay(t, next))
	}
	return t.add(step{next: firsts})
}

func (b branch) lay(t *track, next int) int {
	for i := len(b) - 1; i >= 0; i-- {
		next = b[i].lay(t, next)
	}
	return next
}

func (x star) lay(t *track, next int) int {
	fork, _ := t.addLoop(x.atom, next)
	return fork
}

func (x plus) lay(t *track, next int) int {
	_, first := t.addLoop(x.atom, next)
	return first
}

func (x maybe) lay(t *track, next int) int {
	return t.add(step{next: []int{x.atom.lay(t, next), next}})
}

// ends: for each place from lo to the text's end, where the longest stretch ends that begins there and is matched, or none. It goes through the text once, from its end, with what each step reaches from the place behind in hand.
func (t *track) ends(text []rune, lo int) []int {
	ends := make([]int, len(text)-lo+1)
	here := make([]int, len(t.steps))
	behind := make([]int, len(t.steps))
	for q := len(text); q >= lo; q-- {
		for _, k := range t.order {
			here[k] = t.reach(k, text, q, here, behind)
		}
		ends[q-lo] = here[t.first]
		here, behind = behind, here
	}
	return ends
}

// reach: the greatest place at which a walk can be at the goal that is at step k at place q; here and behind are what the steps reach from q and from q+1.
func (t *track) reach(k int, text []rune, q int, here, behind []int) int {
	s := &t.steps[k]
	switch {
	case k == goal:
		return q
	case s.one != nil && (q == len(text) || !s.one.takes(text[q])):
		return none
	case s.one != nil:
		return behind[s.next[0]]
	case s.edge != nil && !s.edge.stands(text, q):
		return none
	}
	far := none
	for _, n := range s.next {
		far = max(far, here[n])
	}
	return far
}
