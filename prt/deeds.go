package prt

import (
	"pontage/api"
	"pontage/rvar"
)

func (c *changing) begin() {
	p := c.port()
	p.Role, p.Prt = api.Disabled, api.PrtDisable
	p.Learn, p.Forward = false, false
	p.Synced, p.Sync, p.ReRoot = false, true, true
	p.RrWhile, p.FdWhile, p.Backup = p.DesigT.Delay, p.DesigT.Max, 0
}

// takeRole gives the port the role that is wanted of it. Any role that there is not is taken as one that only stands by.
func (c *changing) takeRole() {
	p := c.port()
	p.Role = p.Wanted
	become := c.becomeBlocked
	switch p.Role {
	case api.Disabled:
		become = c.becomeDisabled
	case api.Root:
		become = c.becomeRoot
	case api.Designated:
		become = c.becomeDesignated
	}
	become()
}

func (c *changing) becomeDisabled() {
	p := c.port()
	p.Learn, p.Forward, p.Prt = false, false, api.PrtDisable
}

func (c *changing) becomeRoot() {
	p := c.port()
	p.RrWhile, p.Prt = p.DesigT.Delay, api.PrtRoot
}

func (c *changing) becomeDesignated() {
	c.port().Prt = api.PrtDesig
}

func (c *changing) becomeBlocked() {
	p := c.port()
	p.Learn, p.Forward, p.Prt = false, false, api.PrtBlock
}

func (c *changing) disabled() {
	p := c.port()
	c.rest()
	p.FdWhile, p.Prt = p.DesigT.Max, api.PrtDisabled
}

func (c *changing) blocked() {
	p := c.port()
	c.rest()
	p.FdWhile, p.Prt = p.DesigT.Delay, api.PrtAlternate
}

// rest is what all ports have that do nothing: nobody need wait for them.
func (c *changing) rest() {
	p := c.port()
	p.Synced, p.Sync, p.ReRoot = true, false, false
	p.RrWhile = 0
}

func (c *changing) bringInStep() {
	c.port().Proposed = false
	c.tree = rvar.SyncAll(c.tree)
}

func (c *changing) agree() {
	p := c.port()
	p.Proposed, p.Agree, p.NewInfo = false, true, true
}

func (c *changing) agreeAsRoot() {
	c.port().Sync = false
	c.agree()
}

func (c *changing) askReRoot() {
	c.tree = rvar.ReRootAll(c.tree)
}

func (c *changing) reRooted() {
	c.port().ReRoot = false
}

func (c *changing) learn() {
	p := c.port()
	p.Learn, p.FdWhile = true, rvar.Delay(*p)
}

func (c *changing) forward() {
	p := c.port()
	p.Forward, p.FdWhile = true, 0
}

// forwardAsDesignated counts a neighbour that speaks RSTP as having agreed, for it would have told otherwise by now.
func (c *changing) forwardAsDesignated() {
	c.forward()
	p := c.port()
	p.Agreed = p.SendRSTP
}

// recent lets a root port count as such for a while behind its end.
func (c *changing) recent() {
	p := c.port()
	p.RrWhile = p.DesigT.Delay
}

func (c *changing) propose() {
	p := c.port()
	p.Proposing, p.NewInfo = true, true
}

func (c *changing) synced() {
	p := c.port()
	p.RrWhile = 0
	p.Synced, p.Sync = true, false
}

func (c *changing) stop() {
	p := c.port()
	p.Learn, p.Forward, p.Disputed = false, false, false
	p.FdWhile = rvar.Delay(*p)
}

func (c *changing) backup() {
	p := c.port()
	p.Backup = twice(p.DesigT.Hello)
}
