// Package machine: runs of images (P11).
package machine

import (
	"linker/api"
	"linker/image"
	"linker/instr"
)

// run is one run: the image, which is only read, and what changes from step to step. Registers, pc and the words of data are words throughout.
type run struct {
	image  *image.Image
	in     []int
	regs   [32]int
	data   []int // with the noughts
	pc     int
	next   int // what pc becomes when the step is done
	result api.Result
}

// Run runs an image anew with numbers to read, for at most fuel steps.
func Run(m *image.Image, in []int, fuel int) (api.Result, api.Errno) {
	if len(in) > api.MaxIn {
		return api.Result{}, api.ErrIn
	}
	if fuel < 0 || fuel > api.MaxFuel {
		return api.Result{}, api.ErrFuel
	}
	r := run{image: m, in: in, data: freshData(m), pc: m.Start}
	for r.result.End == 0 && r.result.Steps < fuel {
		r.step()
	}
	if r.result.End == 0 {
		r.result.End = api.OutFuel
	}
	return r.result, api.OK
}

// freshData gives data as loaded, and the noughts, in a list of its own: what a run stores there is gone with it.
func freshData(m *image.Image) []int {
	var data []int
	for _, w := range m.Data {
		data = append(data, w)
	}
	for i := 0; i < m.Noughts; i++ {
		data = append(data, 0)
	}
	return data
}

func (r *run) step() {
	r.result.Steps++
	w, there := r.image.Code(r.pc)
	if !there {
		r.result.End = api.TrapFetch
		return
	}
	r.next = word(r.pc + 4)
	i := instr.Decode(w)
	r.do(i)
	r.pc = r.next
}

// do does one instruction.
func (r *run) do(i instr.Instr) {
	a := r.register(i.Rs1)
	b := r.register(i.Rs2)
	switch i.Op {
	case instr.None:
		r.result.End = api.TrapOp
	case instr.Lui:
		r.set(i.Rd, i.N*4096)
	case instr.Auipc:
		r.set(i.Rd, i.N*4096+r.pc)
	case instr.Jal:
		r.jump(i.Rd, r.pc+i.N)
	case instr.Jalr:
		r.jump(i.Rd, (a+i.N)&^1)
	case instr.Beq, instr.Bne, instr.Blt, instr.Bge, instr.Bltu, instr.Bgeu:
		r.branch(holds(i.Op, a, b), i.N)
	case instr.Lw:
		r.load(i.Rd, word(a+i.N))
	case instr.Sw:
		r.store(word(a+i.N), b)
	case instr.Addi, instr.Slti, instr.Xori, instr.Ori, instr.Andi:
		r.set(i.Rd, computed(plain(i.Op), a, word(i.N)))
	case instr.Ecall:
		r.call()
	default:
		r.set(i.Rd, computed(i.Op, a, b))
	}
}

// register gives what a register has. An instruction's registers are never beyond the last; the bits are cut so that no index can be.
func (r *run) register(n int) int {
	return r.regs[n&31]
}

// set lays the lowest 32 bits of v in a register, unless it is register 0, which stays 0.
func (r *run) set(n int, v int) {
	if n&31 != 0 {
		r.regs[n&31] = word(v)
	}
}

func (r *run) jump(rd int, to int) {
	r.set(rd, r.pc+4)
	r.next = word(to)
}

func (r *run) branch(taken bool, n int) {
	if taken {
		r.next = word(r.pc + n)
	}
}

func (r *run) load(rd int, address int) {
	w, there := r.image.Code(address)
	if there {
		r.set(rd, w)
		return
	}
	i := r.dataPlace(address)
	if i < 0 {
		r.result.End = api.TrapLoad
		return
	}
	r.set(rd, r.data[i])
}

func (r *run) store(address int, w int) {
	i := r.dataPlace(address)
	if i < 0 {
		r.result.End = api.TrapStore
		return
	}
	r.data[i] = w
}

func (r *run) dataPlace(address int) int {
	return image.Place(r.data, r.image.Bases.Data, address)
}
