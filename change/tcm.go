package change

import "pontage/api"

// fromInactive waits till what was learned of the port is gone, for it would count as learned anew.
func fromInactive(t api.Tree, i int) (api.Tree, bool) {
	if p := t.P[i]; p.Learn && !p.Flush {
		return learns(t, i), true
	}
	return t, false
}

func fromLearning(t api.Tree, i int) (api.Tree, bool) {
	p := t.P[i]
	switch {
	case hasPlace(p) && p.Forward:
		return detected(t, i), true
	case !hasPlace(p) && !p.Learn && !p.Learning && !told(p):
		return quiet(t, i), true
	case told(p):
		return learns(t, i), true
	}
	return t, false
}

func fromActive(t api.Tree, i int) (api.Tree, bool) {
	p := t.P[i]
	switch {
	case !hasPlace(p):
		return learns(t, i), true
	case p.GotTCN || p.GotTC:
		return notified(t, i), true
	case p.TcProp:
		return propagating(t, i), true
	case p.GotAck:
		return acknowledged(t, i), true
	}
	return t, false
}

// hasPlace tells whether a port is of the tree along which frames go.
func hasPlace(p api.Port) bool {
	return p.Role == api.Root || p.Role == api.Designated
}

// told tells whether a port heard of a change, from its neighbour or from another port.
func told(p api.Port) bool {
	return p.GotTC || p.GotTCN || p.GotAck || p.TcProp
}

func quiet(t api.Tree, i int) api.Tree {
	return changed(t, i, func(p *api.Port) {
		p.Flush, p.TcAck = true, false
		p.TcWhile = 0
		p.Tcm = api.TcmInactive
	})
}

// learns lets go what the port was told: while it does not forward, no change is its to tell.
func learns(t api.Tree, i int) api.Tree {
	return changed(t, i, func(p *api.Port) {
		p.GotTC, p.GotTCN, p.GotAck, p.TcProp = false, false, false, false
		p.Tcm = api.TcmLearning
	})
}

// detected tells of the change that the port itself is, as it begins to forward, even where it tells of another one already.
func detected(t api.Tree, i int) api.Tree {
	return changed(Prop(NewWhile(t, i), i), i, func(p *api.Port) {
		p.NewInfo = true
		p.Tcm = api.TcmActive
	})
}

// notified passes on what a neighbour told. One that sent a TCN waits till a designated port answers.
func notified(t api.Tree, i int) api.Tree {
	if t.P[i].GotTCN {
		t = NewWhile(t, i)
	}
	return changed(Prop(t, i), i, func(p *api.Port) {
		p.GotTCN, p.GotTC = false, false
		p.TcAck = p.TcAck || p.Role == api.Designated
	})
}

// propagating tells the neighbour of what another port heard; stations may lie elsewhere now.
func propagating(t api.Tree, i int) api.Tree {
	return changed(NewWhile(t, i), i, func(p *api.Port) {
		p.Flush, p.TcProp = true, false
	})
}

// acknowledged ends the telling: the neighbour does it now.
func acknowledged(t api.Tree, i int) api.Tree {
	return changed(t, i, func(p *api.Port) {
		p.TcWhile, p.GotAck = 0, false
	})
}
