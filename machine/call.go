package machine

import "linker/api"

// What register 17 asks for at an ecall, and the register that has the number with which it is asked.
const (
	askExit  = 0
	askPrint = 1
	askRead  = 2
	asking   = 17
	asked    = 10
)

// call does what is asked for at an ecall.
func (r *run) call() {
	switch r.register(asking) {
	case askExit:
		r.result.End = api.Exit
		r.result.Code = signed(r.register(asked))
	case askPrint:
		r.print(signed(r.register(asked)))
	case askRead:
		r.read()
	default:
		r.result.End = api.TrapCall
	}
}

func (r *run) print(n int) {
	if len(r.result.Out) >= api.MaxOut {
		r.result.End = api.TrapCall
		return
	}
	r.result.Out = append(r.result.Out, n)
}

func (r *run) read() {
	if r.result.Read >= len(r.in) {
		r.result.End = api.TrapCall
		return
	}
	r.set(asked, r.in[r.result.Read])
	r.result.Read++
}
