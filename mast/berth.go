package mast

import "ballonet/api"

// CheckPort returns ErrPort unless a port is valid (P7.4).
func CheckPort(p api.Port) api.Errno {
	if !areAxes(p.Axes) || !arePeople(p.People) || !isMost(p.Most) || !arePulls(p.Pulls) || !isCross(p.Cross) {
		return api.ErrPort
	}
	return api.OK
}

// CheckBerth returns ErrBerth unless a berth is valid for a port, which has to be valid itself (P7.4).
func CheckBerth(p api.Port, b api.Berth) api.Errno {
	if e := CheckPort(p); e != api.OK {
		return e
	}
	if !isIndex(b.Axis, len(p.Axes)) || b.Held != 0 && !inOrder(portNeed(p), b.Held, p.People) || !isAsItsShip(b) {
		return api.ErrBerth
	}
	return api.OK
}

// portNeed returns the need of a port.
func portNeed(p api.Port) int { return max(1, sum(needs(p.Pulls, p.Most))) }

// isAsItsShip reports whether a berth is as it has to be for where its ship is.
func isAsItsShip(b api.Berth) bool {
	switch b.Ship {
	case api.ShipAway, api.ShipOver:
		return b.Held == 0 && !b.Wire
	case api.ShipLined:
		return b.Held > 0
	case api.ShipMasted, api.ShipHoused:
		return !b.Wire
	case api.ShipWalking:
		return b.Held > 0 && !b.Wire && b.Open
	}
	return false
}

// Do returns a berth after an act in a wind (P7.4).
func Do(p api.Port, b api.Berth, s api.MastStep) (c api.Berth, rule int, e api.Errno) {
	if e := CheckBerth(p, b); e != api.OK {
		return api.Berth{}, 0, e
	}
	return quayOf(p).after(b, s)
}

// Play returns a berth after some steps (P7.4).
func Play(p api.Port, b api.Berth, steps []api.MastStep) (c api.Berth, at, rule int, e api.Errno) {
	if e := CheckBerth(p, b); e != api.OK {
		return api.Berth{}, 0, 0, e
	}
	if len(steps) > api.MaxSteps {
		return api.Berth{}, 0, 0, api.ErrMany
	}
	q := quayOf(p)
	for i, s := range steps {
		next, rule, e := q.after(b, s)
		if e != api.OK {
			return b, i, rule, e
		}
		b = next
	}
	return b, 0, 0, api.OK
}

// quay is a valid port, with its need and what is done there.
type quay struct {
	api.Port
	need int
	acts map[uint8]act
}

func quayOf(p api.Port) quay { return quay{p, portNeed(p), acts()} }

// after returns a valid berth after a step, or the step's error, with the number of the first rule that does not hold if it is locked.
func (q quay) after(b api.Berth, s api.MastStep) (c api.Berth, rule int, e api.Errno) {
	if e := CheckWind(s.Wind); e != api.OK {
		return api.Berth{}, 0, e
	}
	a, found := q.acts[s.Act.Kind]
	if !found {
		return api.Berth{}, 0, api.ErrArg
	}
	w := work{b, s, q}
	for i, holds := range a.rules {
		if !holds(w) {
			return api.Berth{}, i + 1, api.ErrLock
		}
	}
	a.do(&w)
	return w.Berth, 0, api.OK
}

// work is a berth at work: with the step that is done, and where.
type work struct {
	api.Berth
	api.MastStep
	quay
}

// act is the rules of an act, in order, and what it does if all of them hold.
type act struct {
	rules []func(w work) bool
	do    func(w *work)
}

// acts returns all acts, by their kinds.
func acts() map[uint8]act {
	type rules = []func(w work) bool
	return map[uint8]act{
		api.MastCome:   {rules{work.isAway}, (*work).come},
		api.MastLines:  {rules{work.takesLines, work.isFree, work.isManned}, (*work).holdLines},
		api.MastLetGo:  {rules{work.isTied, work.isOffWire, work.isHeld}, (*work).letGo},
		api.MastWire:   {rules{work.isLined, work.isOffWire}, (*work).putOnWire},
		api.MastCouple: {rules{work.isLined, work.isOnWire}, (*work).couple},
		api.MastCast:   {rules{work.isMasted, work.isFree}, (*work).cast},
		api.MastOpen:   {rules{work.isShut}, (*work).open},
		api.MastShut:   {rules{work.isOpen, work.isStill}, (*work).shut},
		api.MastTurn:   {rules{work.isToTurn, work.isShut}, (*work).turn},
		api.MastWalk:   {rules{work.isMasted, work.isHeld, work.isOpen, work.isCalm}, (*work).walk},
		api.MastIn:     {rules{work.isWalking, work.isCalm}, (*work).house},
		api.MastOut:    {rules{work.isHoused, work.isHeld, work.isOpen, work.isCalm}, (*work).walk},
		api.MastMoor:   {rules{work.isWalking}, (*work).moor},
	}
}

func (w work) isAway() bool    { return w.Ship == api.ShipAway }
func (w work) isOver() bool    { return w.Ship == api.ShipOver }
func (w work) isLined() bool   { return w.Ship == api.ShipLined }
func (w work) isMasted() bool  { return w.Ship == api.ShipMasted }
func (w work) isWalking() bool { return w.Ship == api.ShipWalking }
func (w work) isHoused() bool  { return w.Ship == api.ShipHoused }
func (w work) isStill() bool   { return !w.isWalking() }

// takesLines reports whether the ship is where people may take its lines.
func (w work) takesLines() bool { return w.isOver() || w.isMasted() || w.isHoused() }

// isTied reports whether the ship is where people may let go of its lines.
func (w work) isTied() bool { return w.isLined() || w.isMasted() || w.isHoused() }

func (w work) isFree() bool    { return w.Held == 0 }
func (w work) isHeld() bool    { return w.Held > 0 }
func (w work) isOnWire() bool  { return w.Wire }
func (w work) isOffWire() bool { return !w.Wire }
func (w work) isOpen() bool    { return w.Open }
func (w work) isShut() bool    { return !w.Open }

// isManned reports whether the people who are to hold the lines are enough, and there.
func (w work) isManned() bool { return inOrder(w.need, w.Act.N, w.People) }

// isToTurn reports whether the shed is to turn to another one of its axes.
func (w work) isToTurn() bool { return isIndex(w.Act.N, len(w.Axes)) && w.Act.N != w.Axis }

// isCalm reports whether the wind is calm enough to walk a ship into the shed, or out of it.
func (w work) isCalm() bool { return isCalm(w.Wind, w.Axes[w.Axis], w.Cross) }

func (w *work) come() { w.Ship = api.ShipOver }

func (w *work) holdLines() {
	w.Held = w.Act.N
	if w.isOver() {
		w.Ship = api.ShipLined
	}
}

func (w *work) letGo() {
	w.Held = 0
	if w.isLined() {
		w.Ship = api.ShipOver
	}
}

func (w *work) putOnWire() { w.Wire = true }

func (w *work) couple() { w.Ship, w.Wire = api.ShipMasted, false }

func (w *work) cast() { w.Ship = api.ShipAway }

func (w *work) open() { w.Open = true }

func (w *work) shut() { w.Open = false }

func (w *work) turn() { w.Axis = w.Act.N }

func (w *work) walk() { w.Ship = api.ShipWalking }

func (w *work) house() { w.Ship = api.ShipHoused }

func (w *work) moor() { w.Ship = api.ShipMasted }
