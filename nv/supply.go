package nv

// supply is whether there is power, and how many writes were done since it came. Its zero value has none.
type supply struct {
	on     bool
	writes int
}

func (p *supply) powered() bool { return p.on }

func (p *supply) counted() int { return p.writes }

func (p *supply) count() { p.writes++ }

// lose leaves the count as it is: the writes ahead of the loss were done.
func (p *supply) lose() { p.on = false }

func (p *supply) restore() { *p = supply{on: true} }
