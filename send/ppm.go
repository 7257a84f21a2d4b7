package send

import "pontage/api"

// Ppm is a step of which version a port speaks.
func Ppm(t api.Tree, i int) (api.Tree, bool) {
	if !there(t, i) {
		return t, false
	}
	turn := turnOf(t.P[i])
	if turn == nil {
		return t, false
	}
	return put(t, i, turn), true
}

// turnOf is what becomes of a port, nil where nothing does. For some seconds behind a turn what is heard does not count, lest two neighbours follow each other's turns for ever.
func turnOf(p api.Port) func(p *api.Port) {
	switch p.Ppm {
	case api.PpmChecking:
		switch {
		case !p.Up && p.Migrate != api.MigrateTime:
			return check
		case p.Migrate == 0:
			return sense
		}
	case api.PpmSensing:
		switch {
		case !p.Up || !p.SendRSTP && p.GotRSTP:
			return check
		case p.SendRSTP && p.GotSTP:
			return fallBack
		}
	case api.PpmSelecting:
		if p.Migrate == 0 || !p.Up {
			return sense
		}
	default:
		return check
	}
	return nil
}

func check(p *api.Port) {
	p.SendRSTP = true
	p.Migrate = api.MigrateTime
	p.Ppm = api.PpmChecking
}

// sense forgets what was heard meanwhile: the neighbour may have said it ahead of hearing which version is spoken here.
func sense(p *api.Port) {
	p.GotRSTP, p.GotSTP = false, false
	p.Ppm = api.PpmSensing
}

func fallBack(p *api.Port) {
	p.SendRSTP = false
	p.Migrate = api.MigrateTime
	p.Ppm = api.PpmSelecting
}
