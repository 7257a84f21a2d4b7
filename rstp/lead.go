package rstp

import (
	"slices"

	"pontage/api"
	"pontage/change"
	"pontage/pim"
	"pontage/prt"
	"pontage/roles"
	"pontage/rvar"
	"pontage/send"
)

// Run leads a tree to rest. Whoever handed it in keeps its ports as they were.
func Run(t api.Tree) (api.Tree, Done) {
	l := &leading{tree: rvar.Copy(t)}
	l.toRest()
	slices.Sort(l.done.Flushed)
	l.done.Flushed = slices.Compact(l.done.Flushed)
	return l.tree, l.done
}

// leading is a tree on its way to rest, and what that did so far. Its ports are in memory of its own: steps may change them where they stand.
type leading struct {
	tree api.Tree
	done Done
}

// toRest goes through passes till one of them changes nothing. A tree that was made by hand may need more of them than there may be: it is left on its way then.
func (l *leading) toRest() {
	steps := l.steps()
passes:
	for range api.MaxPasses {
		changes := l.selection()
		for i := range l.tree.P {
			for _, step := range steps {
				if step(i) {
					changes = true
				}
			}
		}
		if changes {
			continue passes
		}
		break passes
	}
}

// steps are those of a port, in their order: each takes the tree as the one ahead left it, and tells whether it changed anything.
func (l *leading) steps() [7]func(i int) bool {
	return [...]func(i int) bool{
		l.information,
		l.transition,
		l.state,
		l.topology,
		l.flush,
		l.version,
		l.transmission,
	}
}

// take lets the tree be what a step made of it.
func (l *leading) take(t api.Tree, changes bool) bool {
	l.tree = t
	return changes
}

func (l *leading) selection() bool {
	return l.take(roles.Step(l.tree))
}

func (l *leading) information(i int) bool {
	return l.take(pim.Step(l.tree, i))
}

func (l *leading) transition(i int) bool {
	return l.take(prt.Step(l.tree, i))
}

func (l *leading) state(i int) bool {
	p, changes := change.Pst(l.tree.P[i])
	l.tree.P[i] = p
	return changes
}

func (l *leading) topology(i int) bool {
	return l.take(change.Tcm(l.tree, i))
}

// flush notes a port behind which all that was learned must go: whoever hears of it does that at once, so that nothing is left to ask for.
func (l *leading) flush(i int) bool {
	p := &l.tree.P[i]
	if !p.Flush {
		return false
	}
	p.Flush = false
	l.done.Flushed = append(l.done.Flushed, i)
	return true
}

func (l *leading) version(i int) bool {
	return l.take(send.Ppm(l.tree, i))
}

func (l *leading) transmission(i int) bool {
	t, out, changes := send.Ptx(l.tree, i)
	l.done.Out = append(l.done.Out, out...)
	return l.take(t, changes)
}
